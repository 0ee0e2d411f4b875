/-
  CmK, CmL, in one text.
-/
import Derived.Test.YthcemghamdmjmaaCgB
import Derived.Laws.StructEq
import Derived.WalkMore
import Derived.Test.YthcemghamdmjmaaPkL
namespace Go.Proofs.Ythcemghamdmjmaa
namespace CmK
open Go.RowKit
open BlkM WirM WirS CmA CmP CmB CmE CmI CmJ
open WirAB (sCx)

theorem eqd_vote (a b c d : Int) (W : World) (k : Nat) : (Op.equalIn (k + 2) TV (.agg #[.int .i64 a, .int .u64 b]) (.agg #[.int .i64 c, .int .u64 d])).run Try.prog W = .ok (a == c && b == d) W := by
  have p0 : ∀ (x y : Int) (V : World), (part 3 #[.int .i64 x, .int .u64 y] 0).run Try.prog V = .ok (.int .i64 x) V := fun x y V => by kernel_rfl
  have p1 : ∀ (x y : Int) (V : World), (part 37 #[.int .i64 x, .int .u64 y] 1).run Try.prog V = .ok (.int .u64 y) V := fun x y V => by kernel_rfl
  simp [Op.equalIn, run_underlying Try.underlying119, run_underlying Try.underlying3, run_underlying Try.underlying37, p0, p1]
  by_cases h1 : a = c <;> by_cases h2 : b = d <;> simp [h1, h2]
theorem eq_vote (a b c d : Int) (W : World) : (binOp .eql TV (.agg #[.int .i64 a, .int .u64 b]) (.agg #[.int .i64 c, .int .u64 d])).run Try.prog W = .ok (.bool (a == c && b == d)) W := by
  simp only [binOp]
  simp [Op.equal, Op.maxDepth, eqd_vote a b c d W 9998]
theorem ne_vote (a b c d : Int) (W : World) : (binOp .neq TV (.agg #[.int .i64 a, .int .u64 b]) (.agg #[.int .i64 c, .int .u64 d])).run Try.prog W = .ok (.bool (!(a == c && b == d))) W := by
  simp only [binOp]
  simp [Op.equal, Op.maxDepth, eqd_vote a b c d W 9998]
/-- The two lists, as they lie. -/
def Two (w : World) (B : Nat) (s1 s2 : Value) : Prop := At w B TL [s1, s2]
def MidM (w : World) (vs us : List Vt) (s er i : Value) (U : World) : Prop :=
  er = .int .i64 0 ∧ ∃ (j : Nat) (A : List Vt) (sa : Option Addr) (sn sc : Nat), j ≤ 2 ∧ i = .int .i64 (j : Int) ∧ s = .slice sa sn sc ∧ OwnT U (.slice sa sn sc) A ∧ Up A ∧ NewB w (.slice sa sn sc) ∧ A.length ≤ 80 * j ∧ ((j = 0 → A = []) ∧ (j = 1 → A = vs) ∧ (j = 2 → mg vs us = some A)) ∧ Below w.heap.size w U
def MidN (w : World) (A0 cs : List Vt) (s er i : Value) (U : World) : Prop :=
  er = .int .i64 0 ∧ ∃ (k : Nat) (A : List Vt) (sa : Option Addr) (sn sc : Nat), k ≤ cs.length ∧ i = .int .i64 (k : Int) ∧ s = .slice sa sn sc ∧ OwnT U (.slice sa sn sc) A ∧ Up A ∧ NewB w (.slice sa sn sc) ∧ A.length ≤ A0.length + k ∧ mg A0 cs = mg A (cs.drop k) ∧ Below w.heap.size w U
/-- What merge tells. -/
def MP (w : World) (o : Option (List Vt)) (e : Ending) (w' : World) : Prop :=
  match o with
  | some r => ∃ a n c, e = .returned (.tuple #[.slice a n c, .int .i64 0]) ∧ OwnT w' (.slice a n c) r ∧ NewB w (.slice a n c) ∧ Below w.heap.size w w'
  | none => e = .returned (.tuple #[.slice none 0 0, .int .i64 8]) ∧ Below w.heap.size w w'
theorem mg_step_none {A l : List Vt} {x : Vt} (h : ofV x.at' A = none) : mg A (x :: l) = mg (insV A x) l := by rw [mg, h]
theorem mg_step_same {A l : List Vt} {x : Vt} {s : Int} (h : ofV x.at' A = some s) (e : s = x.sg) : mg A (x :: l) = mg A l := by rw [mg, h]; simp only [if_pos e]
theorem mg_step_bad {A l : List Vt} {x : Vt} {s : Int} (h : ofV x.at' A = some s) (e : s ≠ x.sg) : mg A (x :: l) = none := by rw [mg, h]; simp only [if_neg e]
/-- What the place found holds. -/
theorem at_found {A : List Vt} (hu : Up A) {k s : Int} (h : ofV k A = some s) : A[cut k A]? = some ⟨k, s⟩ := by
  have e := at_cut hu k
  rw [h] at e
  by_cases c : (A[cut k A]?.map (·.at')) = some k
  · rw [if_pos c] at e
    cases hq : A[cut k A]? with
    | none => rw [hq] at e; cases e
    | some y =>
      rw [hq] at c e
      simp only [Option.map_some, Option.some.injEq] at c e
      rw [Vt.eq_of (x := y) (y := ⟨k, s⟩) c e.symm]
  · rw [if_neg c] at e
    cases e
set_option maxRecDepth 20000 in
set_option maxHeartbeats 16000000 in
theorem merge_any (w : World) (B : Nat) (a b : Option Addr) (n c m d : Nat) (vs us : List Vt) (hB : At w B TL [.slice a n c, .slice b m d]) (hv : VtIn w a n c vs) (hu : VtIn w b m d us) (uv : Up vs) (uu : Up us) (hn : n ≤ 70) (hm : m ≤ 70) :
    Calls Try.prog 223 #[.slice (some ⟨B, 0, none⟩) 2 2] w (MP w (mg vs us)) := by
  have HB := WirS.hide hB
  have HV := WirS.hide hv
  have HU := WirS.hide hu
  have HUV := WirS.hide uv
  have HUU := WirS.hide uu
  have HLV := WirS.hide hv.len
  have HLU := WirS.hide hu.len
  have hBl := hB.lt
  have HST := WirS.hide (show MidM w vs us (.slice none 0 0) (.int .i64 0) (.int .i64 0) w from ⟨rfl, 0, [], none, 0, 0, by omega, rfl, rfl, OwnT.nil w, Up.nil, (fun k hk => by simp [Value.ownBlock] at hk), by simp, ⟨fun _ => rfl, fun h => absurd h (by decide), fun h => absurd h (by decide)⟩, Below.refl _ _⟩)
  clear hB hv hu uv uu
  go_enter Try.func223, Try.ntmps223
  go_wp2_with fail
  go_step3
  go_wp2_with fail
  go_step3
  go_wp2_with fail
  go_loopw [4, 5, 14] (fun s er i wr => MidM w vs us s er i wr) (fun _ _ i _ => 2 - (intOf i).toNat)
  case atStart => exact HST.out
  case round =>
    clear HST
    obtain ⟨rfl, j, A0, s0, n0, c0, hj, rfl, rfl, hO, hUp, hNB, hlen, hcs, hBw⟩ := hrel
    have HO := WirS.hide hO
    have HUP := WirS.hide hUp
    have HNB := WirS.hide hNB
    have HCS := WirS.hide hcs
    have HBW := WirS.hide hBw
    clear hO hUp hNB hcs
    by_cases hlt : j < 2
    · obtain rfl | rfl : j = 0 ∨ j = 1 := by omega
      · have e0 : A0 = [] := HCS.out.1 rfl
        subst e0
        have kB : wr.cell? ⟨B, 0, none⟩ = some (.slice a n c) := (hBw.cell (p := ⟨B, 0, none⟩) hBl).trans (HB.out.cell 0)
        clear hBw hj hlt
        have HSN := WirS.hide (show MidN w [] vs (.slice s0 n0 c0) (.int .i64 0) (.int .i64 0) wr from ⟨rfl, 0, [], s0, n0, c0, Nat.zero_le _, rfl, rfl, HO.out, HUP.out, HNB.out, by omega, rfl, HBW.out⟩)
        have hA0 : ([] : List Vt).length ≤ 0 := by omega
        clear hlen HO HUP HNB
        go_wp2_with fail
        go_loopw [4, 5, 20] (fun s er i wr => MidN w [] vs s er i wr) (fun _ _ i _ => n - (intOf i).toNat)
        case atStart => exact HSN.out
        case round =>
          clear HSN
          obtain ⟨rfl, k, A, sa, sn, sc, hk, rfl, rfl, hO, hUp, hNB, hlen, hE, hBw⟩ := hrel
          have HO := WirS.hide hO
          have HUP := WirS.hide hUp
          have HNB := WirS.hide hNB
          have HBW := WirS.hide hBw
          rw [HLV.out] at hk
          by_cases hlt : k < n
          · obtain ⟨x, Bx, ox, hx, hmem, rfl, hBl2, hr⟩ := (HV.out.below hBw).cell hlt
            have r0 : wr.cell? ⟨Bx, ox + k * 2, none⟩ = some (.int .i64 x.at') := hr 0 _ rfl
            have r1 : wr.cell? ⟨Bx, ox + k * 2 + 1, none⟩ = some (.int .u64 x.sg) := hr 1 _ rfl
            have hkl : (k : Int) < (n : Int) := by omega
            have hxo := HV.out.ok x hmem
            have hxp := HUV.out.rng x hmem
            have hsl : A.length = sn := by obtain ⟨va, vc, e⟩ := hO.len_of; cases e; rfl
            have hsn : sn ≤ 150 := by omega
            rw [drop_get hx] at hE
            obtain ⟨W1, e1⟩ : ∃ X, X = wr.alloc (.cells #[.int .i64 x.at', .int .u64 x.sg] TV) := ⟨_, rfl⟩
            obtain ⟨Y, eY⟩ : ∃ Y, wr.heap.size = Y := ⟨_, rfl⟩
            have hA1 : At W1 Y TV x.cells := by rw [e1, ← eY]; exact At.new wr _ _
            have h01 : Below wr.heap.size wr W1 := by rw [e1]; exact Below.alloc (Below.refl _ _) (Nat.le_refl _) _
            have HB1 := WirS.hide (hBw.trans (h01.mono hBw.size))
            have hO1 := hO.below h01
            have HYn := WirS.hide (show (Value.slice sa sn sc).ownBlock ≠ some Y from fun e => by have := hO.lt Y e; omega)
            have HFD := WirS.hide (find_any W1 sa sn sc A x.at' hO1.vin hUp (by omega))
            have HA1 := WirS.hide hA1
            have HO1 := WirS.hide hO1
            have HSL := WirS.hide hsl
            have HXO := WirS.hide hxo
            have HXP := WirS.hide hxp
            have HLE := WirS.hide hlen
            have HWY := WirS.hide (show w.heap.size ≤ Y by rw [← eY]; exact hBw.size)
            have E1 := WirS.hide e1
            have hcl := cut_le x.at' A
            rw [hsl] at hcl
            have HCL := WirS.hide hcl
            clear hr hx hmem hxo hxp hA1 h01 hO1 hsl e1 hO hUp hNB hBw hlen hcl
            cases ho : ofV x.at' A with
            | none =>
              rw [ho] at HFD
              have hE2 : mg [] vs = mg (insV A x) (vs.drop (k + 1)) := by rw [hE, mg_step_none ho]
              have HE := WirS.hide hE2
              have HUP2 := WirS.hide (up_insV HUP.out HXP.out ho)
              have HIL := WirS.hide (insV_len A x)
              have HINS := WirS.hide (fun (U : World) (V : Nat) (h1 : OwnT U (.slice sa sn sc) A) (h2 : At U V TV x.cells) (h3 : (Value.slice sa sn sc).ownBlock ≠ some V) => insert_any U sa sn sc (cut x.at' A) V A x h1 h2 HXO.out h3 HCL.out (by omega))
              rw [show ins A (cut x.at' A) x = insV A x from rfl] at HINS
              generalize (cut x.at' A : Nat) = q at *
              clear hE hE2 ho
              go_upto_region 9 with fail
              rw [show wr.alloc (.cells #[.int .i64 x.at', .int .u64 x.sg] TV) = W1 from E1.out.symm]
              clear r0 r1 eY E1
              have y0 : W1.cell? ⟨Y, 0, none⟩ = some (.int .i64 x.at') := HA1.out.cell 0
              go_upto_region 11 with (go_at_call 173; refine (HFD.out).mono ?_; rintro e u1 ⟨rfl, hb⟩; have HU1 := WirS.hide hb; clear hb)
              clear y0
              have HB2 := WirS.hide (HB1.out.trans (HU1.out.mono HB1.out.size))
              have hO2 := HO1.out.below HU1.out
              have hA2 := At.below HA1.out HU1.out HA1.out.lt
              have hal : Below u1.heap.size u1 (u1.alloc (.cells x.cells.toArray TV)) := Below.alloc (Below.refl _ _) (Nat.le_refl _) _
              obtain ⟨V, eV⟩ : ∃ V, u1.heap.size = V := ⟨_, rfl⟩
              have HC := WirS.hide (HINS.out (u1.alloc (.cells x.cells.toArray TV)) V (hO2.below hal) (by rw [← eV]; exact At.new u1 _ _) (fun e => by have := hO2.lt V e; omega))
              have HB3 := WirS.hide (HB2.out.trans (hal.mono HB2.out.size))
              have HA2 := WirS.hide hA2
              clear hO2 hA2 hal
              refine wp_region_lit ?_
              refine sV (.slice sa sn sc) (u1) (by kernel_rfl) (by kernel_rfl) ?_
              simp only [Act.put, List.setIfInBounds_toArray, List.set_cons_succ, List.set_cons_zero]
              refine sV (.int .i64 (q : Int)) (u1) (by kernel_rfl) (by kernel_rfl) ?_
              simp only [Act.put, List.setIfInBounds_toArray, List.set_cons_succ, List.set_cons_zero]
              refine sL (by kernel_rfl) _ _ (by rfl) _ (by kernel_rfl) HA2.out _ 2 Try.underlying119 rfl (by kernel_rfl) (by rfl) ?_
              simp only [Act.put, List.setIfInBounds_toArray, List.set_cons_succ, List.set_cons_zero]
              refine sV (.slice (some ⟨u1.heap.size, 0, none⟩) 1 1) (u1.alloc (.cells x.cells.toArray TV)) (by kernel_rfl) (by kernel_rfl) ?_
              simp only [Act.put, List.setIfInBounds_toArray, List.set_cons_succ, List.set_cons_zero]
              rw [eV]
              refine sCx (by kernel_rfl) (by kernel_rfl) HC.out ?_
              rintro e u3 ⟨ia, im, ic, rfl, hio, hif, hin⟩
              refine ⟨_, rfl, ?_⟩
              simp only [Act.put, List.setIfInBounds_toArray, List.set_cons_succ, List.set_cons_zero]
              have HIO := WirS.hide hio
              have HBF := WirS.hide (HB3.out.trans (hif.below (B := w.heap.size) HB3.out.size (fun q hq hx => by have := HNB.out q hx; omega)))
              have HNN := WirS.hide (show NewB w (.slice ia im ic) from fun q hq => by
                rcases hin q hq with h | h
                · exact HNB.out q h
                · exact Nat.le_trans HB3.out.size h)
              clear hio hif hin HC eV
              go_wp2_with fail
              go_roundw
              case rel => exact ⟨rfl, k + 1, insV A x, ia, im, ic, by rw [HLV.out]; omega, by go_num, rfl, HIO.out, HUP2.out, HNN.out, by have := HIL.out; have := HLE.out; omega, HE.out, HBF.out⟩
              case measure => simp [intOf]; omega
            | some sg =>
              rw [ho] at HFD
              have hfd := at_found HUP.out ho
              have hcl := HCL.out
              have hql : cut x.at' A < sn := by have := (List.getElem?_eq_some_iff.1 hfd).1; have := HSL.out; omega
              generalize hq : (cut x.at' A : Nat) = q at *
              clear hq
              have HFO := WirS.hide hfd
              have hq2 : (q : Int) < (sn : Int) := by omega
              clear hfd hcl
              by_cases es : sg = x.sg
              · have hE2 : mg [] vs = mg A (vs.drop (k + 1)) := by rw [hE, mg_step_same ho es]
                have HE := WirS.hide hE2
                clear hE hE2 ho
                go_upto_region 9 with fail
                rw [show wr.alloc (.cells #[.int .i64 x.at', .int .u64 x.sg] TV) = W1 from E1.out.symm]
                clear r0 r1 eY E1
                have y0 : W1.cell? ⟨Y, 0, none⟩ = some (.int .i64 x.at') := HA1.out.cell 0
                go_upto_region 12 with (go_at_call 173; refine (HFD.out).mono ?_; rintro e u1 ⟨rfl, hb⟩; have HU1 := WirS.hide hb; clear hb)
                clear y0
                obtain ⟨z, Bz, oz, hz, _, rfl, _, hzr⟩ := (HO1.out.below HU1.out).vin.cell hql
                rw [HFO.out] at hz
                cases hz
                have z0 : u1.cell? ⟨Bz, oz + q * 2, none⟩ = some (.int .i64 x.at') := hzr 0 _ rfl
                have z1 : u1.cell? ⟨Bz, oz + q * 2 + 1, none⟩ = some (.int .u64 sg) := hzr 1 _ rfl
                have hA2 := At.below HA1.out HU1.out HA1.out.lt
                have y0 : u1.cell? ⟨Y, 0, none⟩ = some (.int .i64 x.at') := hA2.cell 0
                have y1 : u1.cell? ⟨Y, 1, none⟩ = some (.int .u64 x.sg) := hA2.cell 1
                have hne := fun W => ne_vote x.at' sg x.at' x.sg W
                rw [show (!(x.at' == x.at' && sg == x.sg)) = false by simp [es]] at hne
                have HB2 := WirS.hide (HB1.out.trans (HU1.out.mono HB1.out.size))
                clear hzr hA2 hql es
                go_quiet (fail)
                go_wp2_with fail
                go_roundw
                case rel => exact ⟨rfl, k + 1, A, _, sn, sc, by rw [HLV.out]; omega, by go_num, rfl, by first | exact (HO1.out.below HU1.out).below (below_drewN (below_drewN (Below.refl _ _) _) _) | exact (HO1.out.below HU1.out).below (below_drewN (Below.refl _ _) _), HUP.out, HNB.out, by have := HLE.out; omega, HE.out, by first | exact below_drewN (below_drewN HB2.out _) _ | exact below_drewN HB2.out _⟩
                case measure => simp [intOf]; omega
              · have hE2 : mg [] vs = none := by rw [hE, mg_step_bad ho es]
                have HE := WirS.hide hE2
                clear hE hE2 ho
                go_upto_region 9 with fail
                rw [show wr.alloc (.cells #[.int .i64 x.at', .int .u64 x.sg] TV) = W1 from E1.out.symm]
                clear r0 r1 eY E1
                have y0 : W1.cell? ⟨Y, 0, none⟩ = some (.int .i64 x.at') := HA1.out.cell 0
                go_upto_region 12 with (go_at_call 173; refine (HFD.out).mono ?_; rintro e u1 ⟨rfl, hb⟩; have HU1 := WirS.hide hb; clear hb)
                clear y0
                obtain ⟨z, Bz, oz, hz, _, rfl, _, hzr⟩ := (HO1.out.below HU1.out).vin.cell hql
                rw [HFO.out] at hz
                cases hz
                have z0 : u1.cell? ⟨Bz, oz + q * 2, none⟩ = some (.int .i64 x.at') := hzr 0 _ rfl
                have z1 : u1.cell? ⟨Bz, oz + q * 2 + 1, none⟩ = some (.int .u64 sg) := hzr 1 _ rfl
                have hA2 := At.below HA1.out HU1.out HA1.out.lt
                have y0 : u1.cell? ⟨Y, 0, none⟩ = some (.int .i64 x.at') := hA2.cell 0
                have y1 : u1.cell? ⟨Y, 1, none⟩ = some (.int .u64 x.sg) := hA2.cell 1
                have hne := fun W => ne_vote x.at' sg x.at' x.sg W
                rw [show (!(x.at' == x.at' && sg == x.sg)) = true by simp [es]] at hne
                have HB2 := WirS.hide (HB1.out.trans (HU1.out.mono HB1.out.size))
                clear hzr hA2 hql es
                exact absurd (HE.out.symm.trans (mg_self vs HUV.out)) (by intro h; cases h)
          · obtain rfl : k = n := by omega
            rw [List.drop_eq_nil_of_le (by rw [HLV.out]; exact Nat.le_refl _), mg] at hE
            have HE := WirS.hide hE
            have HLE := WirS.hide hlen
            clear hE hO hUp hNB hBw hlen
            go_wp2_with fail
            go_roundw
            case rel => exact ⟨rfl, 1, A, sa, sn, sc, by omega, by rfl, rfl, HO.out, HUP.out, HNB.out, by have := HLE.out; omega, ⟨fun h => absurd h (by decide), fun _ => Option.some.inj (HE.out.symm.trans (mg_self vs HUV.out)), fun h => absurd h (by decide)⟩, HBW.out⟩
            case measure => simp [intOf]
      · have e0 : A0 = vs := HCS.out.2.1 rfl
        subst e0
        have kB : wr.cell? ⟨B, 1, none⟩ = some (.slice b m d) := (hBw.cell (p := ⟨B, 1, none⟩) hBl).trans (HB.out.cell 1)
        clear hBw hj hlt
        have HSN := WirS.hide (show MidN w A0 us (.slice s0 n0 c0) (.int .i64 0) (.int .i64 0) wr from ⟨rfl, 0, A0, s0, n0, c0, Nat.zero_le _, rfl, rfl, HO.out, HUP.out, HNB.out, by omega, rfl, HBW.out⟩)
        have hA0 : (A0 : List Vt).length ≤ 80 := by omega
        clear hlen HO HUP HNB
        go_wp2_with fail
        go_loopw [4, 5, 20] (fun s er i wr => MidN w A0 us s er i wr) (fun _ _ i _ => m - (intOf i).toNat)
        case atStart => exact HSN.out
        case round =>
          clear HSN
          obtain ⟨rfl, k, A, sa, sn, sc, hk, rfl, rfl, hO, hUp, hNB, hlen, hE, hBw⟩ := hrel
          have HO := WirS.hide hO
          have HUP := WirS.hide hUp
          have HNB := WirS.hide hNB
          have HBW := WirS.hide hBw
          rw [HLU.out] at hk
          by_cases hlt : k < m
          · obtain ⟨x, Bx, ox, hx, hmem, rfl, hBl2, hr⟩ := (HU.out.below hBw).cell hlt
            have r0 : wr.cell? ⟨Bx, ox + k * 2, none⟩ = some (.int .i64 x.at') := hr 0 _ rfl
            have r1 : wr.cell? ⟨Bx, ox + k * 2 + 1, none⟩ = some (.int .u64 x.sg) := hr 1 _ rfl
            have hkl : (k : Int) < (m : Int) := by omega
            have hxo := HU.out.ok x hmem
            have hxp := HUU.out.rng x hmem
            have hsl : A.length = sn := by obtain ⟨va, vc, e⟩ := hO.len_of; cases e; rfl
            have hsn : sn ≤ 150 := by omega
            rw [drop_get hx] at hE
            obtain ⟨W1, e1⟩ : ∃ X, X = wr.alloc (.cells #[.int .i64 x.at', .int .u64 x.sg] TV) := ⟨_, rfl⟩
            obtain ⟨Y, eY⟩ : ∃ Y, wr.heap.size = Y := ⟨_, rfl⟩
            have hA1 : At W1 Y TV x.cells := by rw [e1, ← eY]; exact At.new wr _ _
            have h01 : Below wr.heap.size wr W1 := by rw [e1]; exact Below.alloc (Below.refl _ _) (Nat.le_refl _) _
            have HB1 := WirS.hide (hBw.trans (h01.mono hBw.size))
            have hO1 := hO.below h01
            have HYn := WirS.hide (show (Value.slice sa sn sc).ownBlock ≠ some Y from fun e => by have := hO.lt Y e; omega)
            have HFD := WirS.hide (find_any W1 sa sn sc A x.at' hO1.vin hUp (by omega))
            have HA1 := WirS.hide hA1
            have HO1 := WirS.hide hO1
            have HSL := WirS.hide hsl
            have HXO := WirS.hide hxo
            have HXP := WirS.hide hxp
            have HLE := WirS.hide hlen
            have HWY := WirS.hide (show w.heap.size ≤ Y by rw [← eY]; exact hBw.size)
            have E1 := WirS.hide e1
            have hcl := cut_le x.at' A
            rw [hsl] at hcl
            have HCL := WirS.hide hcl
            clear hr hx hmem hxo hxp hA1 h01 hO1 hsl e1 hO hUp hNB hBw hlen hcl
            cases ho : ofV x.at' A with
            | none =>
              rw [ho] at HFD
              have hE2 : mg A0 us = mg (insV A x) (us.drop (k + 1)) := by rw [hE, mg_step_none ho]
              have HE := WirS.hide hE2
              have HUP2 := WirS.hide (up_insV HUP.out HXP.out ho)
              have HIL := WirS.hide (insV_len A x)
              have HINS := WirS.hide (fun (U : World) (V : Nat) (h1 : OwnT U (.slice sa sn sc) A) (h2 : At U V TV x.cells) (h3 : (Value.slice sa sn sc).ownBlock ≠ some V) => insert_any U sa sn sc (cut x.at' A) V A x h1 h2 HXO.out h3 HCL.out (by omega))
              rw [show ins A (cut x.at' A) x = insV A x from rfl] at HINS
              generalize (cut x.at' A : Nat) = q at *
              clear hE hE2 ho
              go_upto_region 9 with fail
              rw [show wr.alloc (.cells #[.int .i64 x.at', .int .u64 x.sg] TV) = W1 from E1.out.symm]
              clear r0 r1 eY E1
              have y0 : W1.cell? ⟨Y, 0, none⟩ = some (.int .i64 x.at') := HA1.out.cell 0
              go_upto_region 11 with (go_at_call 173; refine (HFD.out).mono ?_; rintro e u1 ⟨rfl, hb⟩; have HU1 := WirS.hide hb; clear hb)
              clear y0
              have HB2 := WirS.hide (HB1.out.trans (HU1.out.mono HB1.out.size))
              have hO2 := HO1.out.below HU1.out
              have hA2 := At.below HA1.out HU1.out HA1.out.lt
              have hal : Below u1.heap.size u1 (u1.alloc (.cells x.cells.toArray TV)) := Below.alloc (Below.refl _ _) (Nat.le_refl _) _
              obtain ⟨V, eV⟩ : ∃ V, u1.heap.size = V := ⟨_, rfl⟩
              have HC := WirS.hide (HINS.out (u1.alloc (.cells x.cells.toArray TV)) V (hO2.below hal) (by rw [← eV]; exact At.new u1 _ _) (fun e => by have := hO2.lt V e; omega))
              have HB3 := WirS.hide (HB2.out.trans (hal.mono HB2.out.size))
              have HA2 := WirS.hide hA2
              clear hO2 hA2 hal
              refine wp_region_lit ?_
              refine sV (.slice sa sn sc) (u1) (by kernel_rfl) (by kernel_rfl) ?_
              simp only [Act.put, List.setIfInBounds_toArray, List.set_cons_succ, List.set_cons_zero]
              refine sV (.int .i64 (q : Int)) (u1) (by kernel_rfl) (by kernel_rfl) ?_
              simp only [Act.put, List.setIfInBounds_toArray, List.set_cons_succ, List.set_cons_zero]
              refine sL (by kernel_rfl) _ _ (by rfl) _ (by kernel_rfl) HA2.out _ 2 Try.underlying119 rfl (by kernel_rfl) (by rfl) ?_
              simp only [Act.put, List.setIfInBounds_toArray, List.set_cons_succ, List.set_cons_zero]
              refine sV (.slice (some ⟨u1.heap.size, 0, none⟩) 1 1) (u1.alloc (.cells x.cells.toArray TV)) (by kernel_rfl) (by kernel_rfl) ?_
              simp only [Act.put, List.setIfInBounds_toArray, List.set_cons_succ, List.set_cons_zero]
              rw [eV]
              refine sCx (by kernel_rfl) (by kernel_rfl) HC.out ?_
              rintro e u3 ⟨ia, im, ic, rfl, hio, hif, hin⟩
              refine ⟨_, rfl, ?_⟩
              simp only [Act.put, List.setIfInBounds_toArray, List.set_cons_succ, List.set_cons_zero]
              have HIO := WirS.hide hio
              have HBF := WirS.hide (HB3.out.trans (hif.below (B := w.heap.size) HB3.out.size (fun q hq hx => by have := HNB.out q hx; omega)))
              have HNN := WirS.hide (show NewB w (.slice ia im ic) from fun q hq => by
                rcases hin q hq with h | h
                · exact HNB.out q h
                · exact Nat.le_trans HB3.out.size h)
              clear hio hif hin HC eV
              go_wp2_with fail
              go_roundw
              case rel => exact ⟨rfl, k + 1, insV A x, ia, im, ic, by rw [HLU.out]; omega, by go_num, rfl, HIO.out, HUP2.out, HNN.out, by have := HIL.out; have := HLE.out; omega, HE.out, HBF.out⟩
              case measure => simp [intOf]; omega
            | some sg =>
              rw [ho] at HFD
              have hfd := at_found HUP.out ho
              have hcl := HCL.out
              have hql : cut x.at' A < sn := by have := (List.getElem?_eq_some_iff.1 hfd).1; have := HSL.out; omega
              generalize hq : (cut x.at' A : Nat) = q at *
              clear hq
              have HFO := WirS.hide hfd
              have hq2 : (q : Int) < (sn : Int) := by omega
              clear hfd hcl
              by_cases es : sg = x.sg
              · have hE2 : mg A0 us = mg A (us.drop (k + 1)) := by rw [hE, mg_step_same ho es]
                have HE := WirS.hide hE2
                clear hE hE2 ho
                go_upto_region 9 with fail
                rw [show wr.alloc (.cells #[.int .i64 x.at', .int .u64 x.sg] TV) = W1 from E1.out.symm]
                clear r0 r1 eY E1
                have y0 : W1.cell? ⟨Y, 0, none⟩ = some (.int .i64 x.at') := HA1.out.cell 0
                go_upto_region 12 with (go_at_call 173; refine (HFD.out).mono ?_; rintro e u1 ⟨rfl, hb⟩; have HU1 := WirS.hide hb; clear hb)
                clear y0
                obtain ⟨z, Bz, oz, hz, _, rfl, _, hzr⟩ := (HO1.out.below HU1.out).vin.cell hql
                rw [HFO.out] at hz
                cases hz
                have z0 : u1.cell? ⟨Bz, oz + q * 2, none⟩ = some (.int .i64 x.at') := hzr 0 _ rfl
                have z1 : u1.cell? ⟨Bz, oz + q * 2 + 1, none⟩ = some (.int .u64 sg) := hzr 1 _ rfl
                have hA2 := At.below HA1.out HU1.out HA1.out.lt
                have y0 : u1.cell? ⟨Y, 0, none⟩ = some (.int .i64 x.at') := hA2.cell 0
                have y1 : u1.cell? ⟨Y, 1, none⟩ = some (.int .u64 x.sg) := hA2.cell 1
                have hne := fun W => ne_vote x.at' sg x.at' x.sg W
                rw [show (!(x.at' == x.at' && sg == x.sg)) = false by simp [es]] at hne
                have HB2 := WirS.hide (HB1.out.trans (HU1.out.mono HB1.out.size))
                clear hzr hA2 hql es
                go_quiet (fail)
                go_wp2_with fail
                go_roundw
                case rel => exact ⟨rfl, k + 1, A, _, sn, sc, by rw [HLU.out]; omega, by go_num, rfl, by first | exact (HO1.out.below HU1.out).below (below_drewN (below_drewN (Below.refl _ _) _) _) | exact (HO1.out.below HU1.out).below (below_drewN (Below.refl _ _) _), HUP.out, HNB.out, by have := HLE.out; omega, HE.out, by first | exact below_drewN (below_drewN HB2.out _) _ | exact below_drewN HB2.out _⟩
                case measure => simp [intOf]; omega
              · have hE2 : mg A0 us = none := by rw [hE, mg_step_bad ho es]
                have HE := WirS.hide hE2
                clear hE hE2 ho
                go_upto_region 9 with fail
                rw [show wr.alloc (.cells #[.int .i64 x.at', .int .u64 x.sg] TV) = W1 from E1.out.symm]
                clear r0 r1 eY E1
                have y0 : W1.cell? ⟨Y, 0, none⟩ = some (.int .i64 x.at') := HA1.out.cell 0
                go_upto_region 12 with (go_at_call 173; refine (HFD.out).mono ?_; rintro e u1 ⟨rfl, hb⟩; have HU1 := WirS.hide hb; clear hb)
                clear y0
                obtain ⟨z, Bz, oz, hz, _, rfl, _, hzr⟩ := (HO1.out.below HU1.out).vin.cell hql
                rw [HFO.out] at hz
                cases hz
                have z0 : u1.cell? ⟨Bz, oz + q * 2, none⟩ = some (.int .i64 x.at') := hzr 0 _ rfl
                have z1 : u1.cell? ⟨Bz, oz + q * 2 + 1, none⟩ = some (.int .u64 sg) := hzr 1 _ rfl
                have hA2 := At.below HA1.out HU1.out HA1.out.lt
                have y0 : u1.cell? ⟨Y, 0, none⟩ = some (.int .i64 x.at') := hA2.cell 0
                have y1 : u1.cell? ⟨Y, 1, none⟩ = some (.int .u64 x.sg) := hA2.cell 1
                have hne := fun W => ne_vote x.at' sg x.at' x.sg W
                rw [show (!(x.at' == x.at' && sg == x.sg)) = true by simp [es]] at hne
                have HB2 := WirS.hide (HB1.out.trans (HU1.out.mono HB1.out.size))
                clear hzr hA2 hql es
                go_quiet (fail)
                go_wp2_with fail
                refine bodyPost_ret (v := .tuple #[.slice none 0 0, .int .i64 8]) (by simp [results, Try.results223, go_sem]) rfl ?_
                rw [HE.out]
                exact ⟨rfl, by first | exact below_drewN (below_drewN HB2.out _) _ | exact below_drewN HB2.out _⟩
          · obtain rfl : k = m := by omega
            rw [List.drop_eq_nil_of_le (by rw [HLU.out]; exact Nat.le_refl _), mg] at hE
            have HE := WirS.hide hE
            have HLE := WirS.hide hlen
            clear hE hO hUp hNB hBw hlen
            go_wp2_with fail
            go_roundw
            case rel => exact ⟨rfl, 2, A, sa, sn, sc, by omega, by rfl, rfl, HO.out, HUP.out, HNB.out, by have := HLE.out; omega, ⟨fun h => absurd h (by decide), fun h => absurd h (by decide), fun _ => HE.out⟩, HBW.out⟩
            case measure => simp [intOf]
    · obtain rfl : j = 2 := by omega
      have hr : mg vs us = some A0 := HCS.out.2.2 rfl
      have HR := WirS.hide hr
      clear hBw hr
      go_wp2_with fail
      refine bodyPost_ret (v := .tuple #[.slice s0 n0 c0, .int .i64 0]) (by simp [results, Try.results223, go_sem]) rfl ?_
      rw [HR.out]
      exact ⟨s0, n0, c0, rfl, HO.out, HNB.out, HBW.out⟩
end CmK
end Go.Proofs.Ythcemghamdmjmaa

namespace Go.Proofs.Ythcemghamdmjmaa
namespace CmL
open Go.RowKit
open BlkM WirM WirS CmA CmP CmB CmE CmI CmJ CmK
open WirX (Thg Bag)
open WirAA (box bag_box bag_set)
open WirAB (sCx)

theorem neHg (l m : List Int) (hl : l.length = 32) (hm : m.length = 32) (W : World) : (binOp .neq 34 (.agg (b8 l).toArray) (.agg (b8 m).toArray)).run Try.prog W = .ok (.bool (!decide (l = m))) W := by
  have h := WirBE.eqHg l m hl hm W
  simp only [binOp] at h ⊢
  cases hq : (Op.equal 34 (.agg (b8 l).toArray) (.agg (b8 m).toArray)).run Try.prog W with
  | ok b w' =>
    simp [hq] at h
    obtain ⟨rfl, rfl⟩ := h
    simp [hq]
  | _ => simp [hq] at h
theorem neI {a b : Int} (h : a ≠ b) (W : World) : (binOp .neq 3 (.int .i64 a) (.int .i64 b)).run Try.prog W = .ok (.bool true) W := by
  simp [binOp, go_sem, h]
theorem neI0 (a : Int) (W : World) : (binOp .neq 3 (.int .i64 a) (.int .i64 a)).run Try.prog W = .ok (.bool false) W := by
  simp [binOp, go_sem]
theorem range_fst {w : World} {L : Nat} {T : TypeId} {xs ys : List Value} (h : At w L T (xs ++ ys)) : w.rangeAt L 0 xs := fun j v hj => by
  rw [h.cell, Nat.zero_add, List.getElem?_append_left (List.getElem?_eq_some_iff.1 hj).1]
  exact hj
theorem range_snd {w : World} {L : Nat} {T : TypeId} {xs ys : List Value} (n : Nat) (hn : xs.length = n) (h : At w L T (xs ++ ys)) : w.rangeAt L n ys := fun j v hj => by
  rw [h.cell, List.getElem?_append_right (by omega), hn, Nat.add_sub_cancel_left]
  exact hj
theorem range_hash {w : World} {X : Nat} {T : TypeId} {ht : Int} {h : List Int} {s : Value} (hA : At w X T (ccl ht h s)) : w.rangeAt X 1 (b8 h) := fun j v hj => by
  rw [hA.cell, show 1 + j = j + 1 by omega]
  show (b8 h ++ [s])[j]? = some v
  rw [List.getElem?_append_left (List.getElem?_eq_some_iff.1 hj).1]
  exact hj
/-- A row in the midst is loaded, whatever the guard. -/
theorem wpList_load_mid' {P : Program} {ops : Array Oper} {rest : List Oper} {o : Oper} {a : Act} {w : World} {Q : Exit → Act → World → Prop} (hw : Region.wanted o (yielded ops a.tmps) = true) (ty : TypeId) (x : Operand) (ho : o.op = .load ty x) (b off : Nat) (hx : a.eval x = .pointer (some ⟨b, off, none⟩)) (cs : List Value) (d : TypeDesc) (hc : w.rangeAt b off cs)
    (hu : P.underlying ty = some d) (hd : d.isRow = true) (hi : (P.info? ty).map (·.size) = some cs.length) (h : wpList P ops Q rest (a.put o.dst (.agg cs.toArray)) w) : wpList P ops Q (o :: rest) a w :=
  stepW hw fun _ hK => wp_load_mid ty x ho b off hx cs d hc hu hd hi (hK _ _ h)
theorem list32 (h : List Int) (hl : h.length = 32) : ∃ x0 x1 x2 x3 x4 x5 x6 x7 x8 x9 x10 x11 x12 x13 x14 x15 x16 x17 x18 x19 x20 x21 x22 x23 x24 x25 x26 x27 x28 x29 x30 x31 : Int, h = [x0, x1, x2, x3, x4, x5, x6, x7, x8, x9, x10, x11, x12, x13, x14, x15, x16, x17, x18, x19, x20, x21, x22, x23, x24, x25, x26, x27, x28, x29, x30, x31] := by
  refine ⟨h[0], h[1], h[2], h[3], h[4], h[5], h[6], h[7], h[8], h[9], h[10], h[11], h[12], h[13], h[14], h[15], h[16], h[17], h[18], h[19], h[20], h[21], h[22], h[23], h[24], h[25], h[26], h[27], h[28], h[29], h[30], h[31], ?_⟩
  apply List.ext_getElem
  · simp [hl]
  · intro i h1 h2
    have hi : i < 32 := by omega
    obtain rfl | rfl | rfl | rfl | rfl | rfl | rfl | rfl | rfl | rfl | rfl | rfl | rfl | rfl | rfl | rfl | rfl | rfl | rfl | rfl | rfl | rfl | rfl | rfl | rfl | rfl | rfl | rfl | rfl | rfl | rfl | rfl : i = 0 ∨ i = 1 ∨ i = 2 ∨ i = 3 ∨ i = 4 ∨ i = 5 ∨ i = 6 ∨ i = 7 ∨ i = 8 ∨ i = 9 ∨ i = 10 ∨ i = 11 ∨ i = 12 ∨ i = 13 ∨ i = 14 ∨ i = 15 ∨ i = 16 ∨ i = 17 ∨ i = 18 ∨ i = 19 ∨ i = 20 ∨ i = 21 ∨ i = 22 ∨ i = 23 ∨ i = 24 ∨ i = 25 ∨ i = 26 ∨ i = 27 ∨ i = 28 ∨ i = 29 ∨ i = 30 ∨ i = 31 := by omega
    all_goals rfl
/-- A commit built of its parts. -/
theorem build_ccl {a : Operand → Value} {ob : Oper} {x y z : Operand} (ht : Int) (h : List Int) (ra : Option Addr) (rn rc : Nat) (hl : h.length = 32) (ho : ob.op = .build TC #[(0, x), (1, y), (2, z)]) (hx : a x = .int .i64 ht) (hy : a y = .agg (b8 h).toArray) (hz : a z = .slice ra rn rc) (W : World) :
    (execOp a ob).run Try.prog W = .ok (.value (.agg (ccl ht h (.slice ra rn rc)).toArray)) W := by
  obtain ⟨x0, x1, x2, x3, x4, x5, x6, x7, x8, x9, x10, x11, x12, x13, x14, x15, x16, x17, x18, x19, x20, x21, x22, x23, x24, x25, x26, x27, x28, x29, x30, x31, rfl⟩ := list32 h hl
  unfold execOp
  rw [ho]
  simp only [List.map_toArray, List.map_cons, List.map_nil, hx, hy, hz]
  kernel_rfl
/-- Two commits as a list. -/
theorem build_two {a : Operand → Value} {ob : Oper} {x y : Operand} (ht hu : Int) (h k : List Int) (ra rb : Option Addr) (rn rc rm rd : Nat) (hl : h.length = 32) (kl : k.length = 32) (ho : ob.op = .buildSlice 247 2 #[(0, x), (1, y)]) (hx : a x = .agg (ccl ht h (.slice ra rn rc)).toArray) (hy : a y = .agg (ccl hu k (.slice rb rm rd)).toArray) (W : World) :
    (execOp a ob).run Try.prog W = .ok (.value (.slice (some ⟨W.heap.size, 0, none⟩) 2 2)) (W.alloc (.cells (ccl ht h (.slice ra rn rc) ++ ccl hu k (.slice rb rm rd)).toArray TC)) := by
  obtain ⟨x0, x1, x2, x3, x4, x5, x6, x7, x8, x9, x10, x11, x12, x13, x14, x15, x16, x17, x18, x19, x20, x21, x22, x23, x24, x25, x26, x27, x28, x29, x30, x31, rfl⟩ := list32 h hl
  obtain ⟨y0, y1, y2, y3, y4, y5, y6, y7, y8, y9, y10, y11, y12, y13, y14, y15, y16, y17, y18, y19, y20, y21, y22, y23, y24, y25, y26, y27, y28, y29, y30, y31, rfl⟩ := list32 k kl
  unfold execOp
  rw [ho]
  simp only [List.map_toArray, List.map_cons, List.map_nil, hx, hy]
  kernel_rfl
/-- What Join says. -/
def joinO (ht : Int) (h : List Int) (vs : List Vt) (hu : Int) (k : List Int) (us : List Vt) : Int × Option (List Vt) :=
  if chk ht vs ≠ 0 then (chk ht vs, none) else if chk hu us ≠ 0 then (chk hu us, none) else if ht ≠ hu ∨ h ≠ k then (9, none) else match mg vs us with
    | none => (8, none)
    | some r => (0, some r)
def JP (w : World) (ht : Int) (h : List Int) (o : Int × Option (List Vt)) (e : Ending) (w' : World) : Prop :=
  match o.2 with
  | none => CP w o.1 0 z32 [] e w'
  | some r => CP w o.1 ht h r e w'
set_option maxRecDepth 20000 in
set_option maxHeartbeats 16000000 in
theorem join_a (w : World) (ht hu : Int) (h k : List Int) (a b : Option Addr) (n c m d : Nat) (vs us : List Vt) (hl : h.length = 32) (kl : k.length = 32) (hv : VtIn w a n c vs) (hw : VtIn w b m d us) (_hn : n ≤ 70) (_hm : m ≤ 70) (hc : chk ht vs ≠ 0) : Calls Try.prog 171 #[.agg (ccl ht h (.slice a n c)).toArray, .agg (ccl hu k (.slice b m d)).toArray] w (CP w (chk ht vs) 0 z32 []) := by
  have HL := WirS.hide hl
  have HK := WirS.hide kl
  have HC1 := WirS.hide (fun U (hU : Below w.heap.size w U) => check_any U ht h a n c vs hl (hv.below hU))
  have HC2 := WirS.hide (fun U (hU : Below w.heap.size w U) => check_any U hu k b m d us kl (hw.below hU))
  have hbX := bag_box (w0 := w) (T := TC) (cs := (ccl ht h (.slice a n c))) (X := w.heap.size) (Bag.nil (Below.refl _ _)) rfl (w' := w.alloc (.cells (ccl ht h (.slice a n c)).toArray TC)) (At.new _ _ _) (Below.alloc (Below.refl _ _) (Nat.le_refl _) _)
  generalize chk ht vs = cd at *
  have d1 : (cd != 0) = true := by simpa using hc
  clear hl kl hv hw hc
  go_enter Try.func171, Try.ntmps171
  go_upto_region 0 with fail
  refine wp_region_lit ?_
  refine sV (.pointer (some ⟨w.heap.size, 0, none⟩)) (w.alloc (.cells (ccl ht h (.slice a n c)).toArray TC)) (by kernel_rfl) (by kernel_rfl) ?_
  simp only [Act.put, List.setIfInBounds_toArray, List.set_cons_succ, List.set_cons_zero]
  obtain ⟨X, eX⟩ : ∃ A, w.heap.size = A := ⟨_, rfl⟩
  rw [eX] at hbX ⊢
  clear eX
  generalize World.alloc w _ = x0 at *
  refine sV (.pointer (some ⟨x0.heap.size, 0, none⟩)) (x0.alloc (.cells (ccl hu k (.slice b m d)).toArray TC)) (by kernel_rfl) (by kernel_rfl) ?_
  simp only [Act.put, List.setIfInBounds_toArray, List.set_cons_succ, List.set_cons_zero]
  obtain ⟨Y, eY⟩ : ∃ A, x0.heap.size = A := ⟨_, rfl⟩
  have hbY := bag_box (T := TC) (cs := (ccl hu k (.slice b m d))) (X := Y) hbX eY.symm (w' := x0.alloc (.cells (ccl hu k (.slice b m d)).toArray TC)) (by rw [← eY]; exact At.new _ _ _) (Below.alloc (Below.refl _ _) (Nat.le_refl _) _)
  rw [eY]
  clear eY hbX
  generalize World.alloc x0 _ = x1 at *
  refine sV (.pointer (some ⟨x1.heap.size, 0, none⟩)) (x1.alloc (.cells zcm.toArray TC)) (by kernel_rfl) (by kernel_rfl) ?_
  simp only [Act.put, List.setIfInBounds_toArray, List.set_cons_succ, List.set_cons_zero]
  obtain ⟨Z, eZ⟩ : ∃ A, x1.heap.size = A := ⟨_, rfl⟩
  have hbZ := bag_box (T := TC) (cs := zcm) (X := Z) hbY eZ.symm (w' := x1.alloc (.cells zcm.toArray TC)) (by rw [← eZ]; exact At.new _ _ _) (Below.alloc (Below.refl _ _) (Nat.le_refl _) _)
  rw [eZ]
  clear eZ hbY
  generalize World.alloc x1 _ = x2 at *
  have H2 := WirS.hide hbZ
  clear hbZ
  go_upto_region 1 with fail
  refine wp_region_lit ?_
  refine sL (by kernel_rfl) _ _ (by rfl) _ (by kernel_rfl) H2.out.drop.drop.head _ _ UC rfl (by kernel_rfl) (by rw [ccl_len _ _ _ HL.out]) ?_
  simp only [Act.put, List.setIfInBounds_toArray, List.set_cons_succ, List.set_cons_zero]
  refine sL (by kernel_rfl) _ _ (by rfl) _ (by kernel_rfl) H2.out.drop.head _ _ UC rfl (by kernel_rfl) (by rw [ccl_len _ _ _ HK.out]) ?_
  simp only [Act.put, List.setIfInBounds_toArray, List.set_cons_succ, List.set_cons_zero]
  refine sV (.slice (some ⟨x2.heap.size, 0, none⟩) 2 2) (x2.alloc (.cells ((ccl ht h (.slice a n c)) ++ (ccl hu k (.slice b m d))).toArray TC)) (by kernel_rfl) (build_two (x := .tmp 11) (y := .tmp 12) _ _ h k _ _ _ _ _ _ HL.out HK.out (by kernel_rfl) (by kernel_rfl) (by kernel_rfl) x2) ?_
  simp only [Act.put, List.setIfInBounds_toArray, List.set_cons_succ, List.set_cons_zero]
  obtain ⟨L, eL⟩ : ∃ A, x2.heap.size = A := ⟨_, rfl⟩
  have hbL := bag_box (T := TC) (cs := ((ccl ht h (.slice a n c)) ++ (ccl hu k (.slice b m d)))) (X := L) H2.out eL.symm (w' := x2.alloc (.cells ((ccl ht h (.slice a n c)) ++ (ccl hu k (.slice b m d))).toArray TC)) (by rw [← eL]; exact At.new _ _ _) (Below.alloc (Below.refl _ _) (Nat.le_refl _) _)
  rw [eL]
  clear eL H2
  generalize World.alloc x2 _ = x3 at *
  have H3 := WirS.hide hbL
  clear hbL
  refine sV (.int .i64 2) (x3) (by kernel_rfl) (by kernel_rfl) ?_
  simp only [Act.put, List.setIfInBounds_toArray, List.set_cons_succ, List.set_cons_zero]
  refine sV (.int .i64 0) (x3) (by kernel_rfl) (by kernel_rfl) ?_
  simp only [Act.put, List.setIfInBounds_toArray, List.set_cons_succ, List.set_cons_zero]
  go_wp2_with fail
  refine wp_loop_rounds 3 ?_
  rw [rounds_succ]
  go_upto_region 3 with fail
  refine wp_region_lit ?_
  refine sV (.pointer (some ⟨L, 0, none⟩)) (x3) (by kernel_rfl) (by kernel_rfl) ?_
  simp only [Act.put, List.setIfInBounds_toArray, List.set_cons_succ, List.set_cons_zero]
  refine wpList_load_mid (by rfl) _ _ (by rfl) L 0 (by kernel_rfl) (ccl ht h (.slice a n c)) _ (range_fst H3.out.head) UC (by rfl) (by rw [ccl_len _ _ _ HL.out]; kernel_rfl) ?_
  simp only [Act.put, List.setIfInBounds_toArray, List.set_cons_succ, List.set_cons_zero]
  refine sV (.pointer (some ⟨x3.heap.size, 0, none⟩)) (x3.alloc (.cells zcm.toArray TC)) (by kernel_rfl) (by kernel_rfl) ?_
  simp only [Act.put, List.setIfInBounds_toArray, List.set_cons_succ, List.set_cons_zero]
  obtain ⟨T0, eT0⟩ : ∃ A, x3.heap.size = A := ⟨_, rfl⟩
  have hbT := bag_box (T := TC) (cs := zcm) (X := T0) H3.out eT0.symm (w' := x3.alloc (.cells zcm.toArray TC)) (by rw [← eT0]; exact At.new _ _ _) (Below.alloc (Below.refl _ _) (Nat.le_refl _) _)
  rw [eT0]
  clear eT0 H3
  generalize World.alloc x3 _ = x3a at *
  refine stepStore (by rfl) _ _ _ (by rfl) T0 (ccl ht h (.slice a n c)) (by kernel_rfl) (by kernel_rfl) hbT.head 34 (by kernel_rfl) (by rfl) (ccl_len _ _ _ HL.out) (one_ccl _ _ _ _ _) ?_
  simp only [Act.put]
  have HT0 := WirS.hide (bag_row hbT (ccl ht h (.slice a n c)))
  clear hbT
  generalize World.setRow x3a T0 _ = x3b at *
  go_upto_region 4 with fail
  refine wp_region_lit ?_
  refine sL (by kernel_rfl) _ _ (by rfl) _ (by kernel_rfl) HT0.out.head _ _ UC rfl (by kernel_rfl) (by rw [ccl_len _ _ _ HL.out]) ?_
  simp only [Act.put, List.setIfInBounds_toArray, List.set_cons_succ, List.set_cons_zero]
  refine sC (R := fun w' => Below x3b.heap.size x3b w') (by kernel_rfl) (by kernel_rfl) (HC1.out x3b HT0.out.low) ?_
  rintro x4 hb
  simp only [Act.put, List.setIfInBounds_toArray, List.set_cons_succ, List.set_cons_zero]
  have H4 := WirS.hide (HT0.out.more hb).drop
  clear hb HT0
  go_upto_region 6 with fail
  refine wp_region_lit ?_
  refine sV (.agg zcm.toArray) (x4) (by kernel_rfl) (by kernel_rfl) ?_
  simp only [Act.put, List.setIfInBounds_toArray, List.set_cons_succ, List.set_cons_zero]
  refine sV (.int .i64 cd) (x4) (by kernel_rfl) (by kernel_rfl) ?_
  simp only [Act.put, List.setIfInBounds_toArray, List.set_cons_succ, List.set_cons_zero]
  have HS := WirS.hide H4.out.drop
  clear H4
  refine stepStore (by rfl) _ _ _ (by rfl) Z zcm (by kernel_rfl) (by kernel_rfl) HS.out.head 34 (by kernel_rfl) (by rfl) (by rfl) (one_ccl _ _ _ _ _) ?_
  simp only [Act.put]
  have HF := WirS.hide (bag_row HS.out zcm)
  clear HS
  generalize World.setRow x4 Z _ = xf at *
  go_wp2_with fail
  refine bodyPost_ret (retRow2 HF.out.head Try.results171 _ (by rfl) (.int .i64 cd) (by rfl) _ 34 UC rfl (by kernel_rfl) (by rfl)) rfl ?_
  exact cp_none rfl HF.out.low
set_option maxRecDepth 20000 in
set_option maxHeartbeats 16000000 in
theorem join_b (w : World) (ht hu : Int) (h k : List Int) (a b : Option Addr) (n c m d : Nat) (vs us : List Vt) (hl : h.length = 32) (kl : k.length = 32) (hv : VtIn w a n c vs) (hw : VtIn w b m d us) (_hn : n ≤ 70) (_hm : m ≤ 70) (hc : chk ht vs = 0) (hc2 : chk hu us ≠ 0) : Calls Try.prog 171 #[.agg (ccl ht h (.slice a n c)).toArray, .agg (ccl hu k (.slice b m d)).toArray] w (CP w (chk hu us) 0 z32 []) := by
  have HL := WirS.hide hl
  have HK := WirS.hide kl
  have HC1 := WirS.hide (fun U (hU : Below w.heap.size w U) => check_any U ht h a n c vs hl (hv.below hU))
  have HC2 := WirS.hide (fun U (hU : Below w.heap.size w U) => check_any U hu k b m d us kl (hw.below hU))
  have hbX := bag_box (w0 := w) (T := TC) (cs := (ccl ht h (.slice a n c))) (X := w.heap.size) (Bag.nil (Below.refl _ _)) rfl (w' := w.alloc (.cells (ccl ht h (.slice a n c)).toArray TC)) (At.new _ _ _) (Below.alloc (Below.refl _ _) (Nat.le_refl _) _)
  rw [hc] at HC1
  generalize chk hu us = cd at *
  have d1 : (cd != 0) = true := by simpa using hc2
  clear hl kl hv hw hc hc2
  go_enter Try.func171, Try.ntmps171
  go_upto_region 0 with fail
  refine wp_region_lit ?_
  refine sV (.pointer (some ⟨w.heap.size, 0, none⟩)) (w.alloc (.cells (ccl ht h (.slice a n c)).toArray TC)) (by kernel_rfl) (by kernel_rfl) ?_
  simp only [Act.put, List.setIfInBounds_toArray, List.set_cons_succ, List.set_cons_zero]
  obtain ⟨X, eX⟩ : ∃ A, w.heap.size = A := ⟨_, rfl⟩
  rw [eX] at hbX ⊢
  clear eX
  generalize World.alloc w _ = x0 at *
  refine sV (.pointer (some ⟨x0.heap.size, 0, none⟩)) (x0.alloc (.cells (ccl hu k (.slice b m d)).toArray TC)) (by kernel_rfl) (by kernel_rfl) ?_
  simp only [Act.put, List.setIfInBounds_toArray, List.set_cons_succ, List.set_cons_zero]
  obtain ⟨Y, eY⟩ : ∃ A, x0.heap.size = A := ⟨_, rfl⟩
  have hbY := bag_box (T := TC) (cs := (ccl hu k (.slice b m d))) (X := Y) hbX eY.symm (w' := x0.alloc (.cells (ccl hu k (.slice b m d)).toArray TC)) (by rw [← eY]; exact At.new _ _ _) (Below.alloc (Below.refl _ _) (Nat.le_refl _) _)
  rw [eY]
  clear eY hbX
  generalize World.alloc x0 _ = x1 at *
  refine sV (.pointer (some ⟨x1.heap.size, 0, none⟩)) (x1.alloc (.cells zcm.toArray TC)) (by kernel_rfl) (by kernel_rfl) ?_
  simp only [Act.put, List.setIfInBounds_toArray, List.set_cons_succ, List.set_cons_zero]
  obtain ⟨Z, eZ⟩ : ∃ A, x1.heap.size = A := ⟨_, rfl⟩
  have hbZ := bag_box (T := TC) (cs := zcm) (X := Z) hbY eZ.symm (w' := x1.alloc (.cells zcm.toArray TC)) (by rw [← eZ]; exact At.new _ _ _) (Below.alloc (Below.refl _ _) (Nat.le_refl _) _)
  rw [eZ]
  clear eZ hbY
  generalize World.alloc x1 _ = x2 at *
  have H2 := WirS.hide hbZ
  clear hbZ
  go_upto_region 1 with fail
  refine wp_region_lit ?_
  refine sL (by kernel_rfl) _ _ (by rfl) _ (by kernel_rfl) H2.out.drop.drop.head _ _ UC rfl (by kernel_rfl) (by rw [ccl_len _ _ _ HL.out]) ?_
  simp only [Act.put, List.setIfInBounds_toArray, List.set_cons_succ, List.set_cons_zero]
  refine sL (by kernel_rfl) _ _ (by rfl) _ (by kernel_rfl) H2.out.drop.head _ _ UC rfl (by kernel_rfl) (by rw [ccl_len _ _ _ HK.out]) ?_
  simp only [Act.put, List.setIfInBounds_toArray, List.set_cons_succ, List.set_cons_zero]
  refine sV (.slice (some ⟨x2.heap.size, 0, none⟩) 2 2) (x2.alloc (.cells ((ccl ht h (.slice a n c)) ++ (ccl hu k (.slice b m d))).toArray TC)) (by kernel_rfl) (build_two (x := .tmp 11) (y := .tmp 12) _ _ h k _ _ _ _ _ _ HL.out HK.out (by kernel_rfl) (by kernel_rfl) (by kernel_rfl) x2) ?_
  simp only [Act.put, List.setIfInBounds_toArray, List.set_cons_succ, List.set_cons_zero]
  obtain ⟨L, eL⟩ : ∃ A, x2.heap.size = A := ⟨_, rfl⟩
  have hbL := bag_box (T := TC) (cs := ((ccl ht h (.slice a n c)) ++ (ccl hu k (.slice b m d)))) (X := L) H2.out eL.symm (w' := x2.alloc (.cells ((ccl ht h (.slice a n c)) ++ (ccl hu k (.slice b m d))).toArray TC)) (by rw [← eL]; exact At.new _ _ _) (Below.alloc (Below.refl _ _) (Nat.le_refl _) _)
  rw [eL]
  clear eL H2
  generalize World.alloc x2 _ = x3 at *
  have H3 := WirS.hide hbL
  clear hbL
  refine sV (.int .i64 2) (x3) (by kernel_rfl) (by kernel_rfl) ?_
  simp only [Act.put, List.setIfInBounds_toArray, List.set_cons_succ, List.set_cons_zero]
  refine sV (.int .i64 0) (x3) (by kernel_rfl) (by kernel_rfl) ?_
  simp only [Act.put, List.setIfInBounds_toArray, List.set_cons_succ, List.set_cons_zero]
  go_wp2_with fail
  refine wp_loop_rounds 3 ?_
  rw [rounds_succ]
  go_upto_region 3 with fail
  refine wp_region_lit ?_
  refine sV (.pointer (some ⟨L, 0, none⟩)) (x3) (by kernel_rfl) (by kernel_rfl) ?_
  simp only [Act.put, List.setIfInBounds_toArray, List.set_cons_succ, List.set_cons_zero]
  refine wpList_load_mid (by rfl) _ _ (by rfl) L 0 (by kernel_rfl) (ccl ht h (.slice a n c)) _ (range_fst H3.out.head) UC (by rfl) (by rw [ccl_len _ _ _ HL.out]; kernel_rfl) ?_
  simp only [Act.put, List.setIfInBounds_toArray, List.set_cons_succ, List.set_cons_zero]
  refine sV (.pointer (some ⟨x3.heap.size, 0, none⟩)) (x3.alloc (.cells zcm.toArray TC)) (by kernel_rfl) (by kernel_rfl) ?_
  simp only [Act.put, List.setIfInBounds_toArray, List.set_cons_succ, List.set_cons_zero]
  obtain ⟨T0, eT0⟩ : ∃ A, x3.heap.size = A := ⟨_, rfl⟩
  have hbT := bag_box (T := TC) (cs := zcm) (X := T0) H3.out eT0.symm (w' := x3.alloc (.cells zcm.toArray TC)) (by rw [← eT0]; exact At.new _ _ _) (Below.alloc (Below.refl _ _) (Nat.le_refl _) _)
  rw [eT0]
  clear eT0 H3
  generalize World.alloc x3 _ = x3a at *
  refine stepStore (by rfl) _ _ _ (by rfl) T0 (ccl ht h (.slice a n c)) (by kernel_rfl) (by kernel_rfl) hbT.head 34 (by kernel_rfl) (by rfl) (ccl_len _ _ _ HL.out) (one_ccl _ _ _ _ _) ?_
  simp only [Act.put]
  have HT0 := WirS.hide (bag_row hbT (ccl ht h (.slice a n c)))
  clear hbT
  generalize World.setRow x3a T0 _ = x3b at *
  go_upto_region 4 with fail
  refine wp_region_lit ?_
  refine sL (by kernel_rfl) _ _ (by rfl) _ (by kernel_rfl) HT0.out.head _ _ UC rfl (by kernel_rfl) (by rw [ccl_len _ _ _ HL.out]) ?_
  simp only [Act.put, List.setIfInBounds_toArray, List.set_cons_succ, List.set_cons_zero]
  refine sC (R := fun w' => Below x3b.heap.size x3b w') (by kernel_rfl) (by kernel_rfl) (HC1.out x3b HT0.out.low) ?_
  rintro x4 hb
  simp only [Act.put, List.setIfInBounds_toArray, List.set_cons_succ, List.set_cons_zero]
  have H4 := WirS.hide (HT0.out.more hb).drop
  clear hb HT0
  go_wp2_with fail
  rw [rounds_succ]
  go_upto_region 3 with fail
  refine wp_region_lit ?_
  refine sV (.pointer (some ⟨L, 34, none⟩)) (x4) (by kernel_rfl) (by kernel_rfl) ?_
  simp only [Act.put, List.setIfInBounds_toArray, List.set_cons_succ, List.set_cons_zero]
  refine wpList_load_mid (by rfl) _ _ (by rfl) L 34 (by kernel_rfl) (ccl hu k (.slice b m d)) _ (range_snd 34 (ccl_len _ _ _ HL.out) H4.out.head) UC (by rfl) (by rw [ccl_len _ _ _ HK.out]; kernel_rfl) ?_
  simp only [Act.put, List.setIfInBounds_toArray, List.set_cons_succ, List.set_cons_zero]
  refine sV (.pointer (some ⟨x4.heap.size, 0, none⟩)) (x4.alloc (.cells zcm.toArray TC)) (by kernel_rfl) (by kernel_rfl) ?_
  simp only [Act.put, List.setIfInBounds_toArray, List.set_cons_succ, List.set_cons_zero]
  obtain ⟨T1, eT1⟩ : ∃ A, x4.heap.size = A := ⟨_, rfl⟩
  have hbT := bag_box (T := TC) (cs := zcm) (X := T1) H4.out eT1.symm (w' := x4.alloc (.cells zcm.toArray TC)) (by rw [← eT1]; exact At.new _ _ _) (Below.alloc (Below.refl _ _) (Nat.le_refl _) _)
  rw [eT1]
  clear eT1 H4
  generalize World.alloc x4 _ = x4a at *
  refine stepStore (by rfl) _ _ _ (by rfl) T1 (ccl hu k (.slice b m d)) (by kernel_rfl) (by kernel_rfl) hbT.head 34 (by kernel_rfl) (by rfl) (ccl_len _ _ _ HK.out) (one_ccl _ _ _ _ _) ?_
  simp only [Act.put]
  have HT1 := WirS.hide (bag_row hbT (ccl hu k (.slice b m d)))
  clear hbT
  generalize World.setRow x4a T1 _ = x4b at *
  go_upto_region 4 with fail
  refine wp_region_lit ?_
  refine sL (by kernel_rfl) _ _ (by rfl) _ (by kernel_rfl) HT1.out.head _ _ UC rfl (by kernel_rfl) (by rw [ccl_len _ _ _ HK.out]) ?_
  simp only [Act.put, List.setIfInBounds_toArray, List.set_cons_succ, List.set_cons_zero]
  refine sC (R := fun w' => Below x4b.heap.size x4b w') (by kernel_rfl) (by kernel_rfl) (HC2.out x4b HT1.out.low) ?_
  rintro x5 hb
  simp only [Act.put, List.setIfInBounds_toArray, List.set_cons_succ, List.set_cons_zero]
  have H5 := WirS.hide (HT1.out.more hb).drop
  clear hb HT1
  go_upto_region 6 with fail
  refine wp_region_lit ?_
  refine sV (.agg zcm.toArray) (x5) (by kernel_rfl) (by kernel_rfl) ?_
  simp only [Act.put, List.setIfInBounds_toArray, List.set_cons_succ, List.set_cons_zero]
  refine sV (.int .i64 cd) (x5) (by kernel_rfl) (by kernel_rfl) ?_
  simp only [Act.put, List.setIfInBounds_toArray, List.set_cons_succ, List.set_cons_zero]
  have HS := WirS.hide H5.out.drop
  clear H5
  refine stepStore (by rfl) _ _ _ (by rfl) Z zcm (by kernel_rfl) (by kernel_rfl) HS.out.head 34 (by kernel_rfl) (by rfl) (by rfl) (one_ccl _ _ _ _ _) ?_
  simp only [Act.put]
  have HF := WirS.hide (bag_row HS.out zcm)
  clear HS
  generalize World.setRow x5 Z _ = xf at *
  go_wp2_with fail
  refine bodyPost_ret (retRow2 HF.out.head Try.results171 _ (by rfl) (.int .i64 cd) (by rfl) _ 34 UC rfl (by kernel_rfl) (by rfl)) rfl ?_
  exact cp_none rfl HF.out.low
set_option maxRecDepth 20000 in
set_option maxHeartbeats 16000000 in
theorem join_c (w : World) (ht hu : Int) (h k : List Int) (a b : Option Addr) (n c m d : Nat) (vs us : List Vt) (hl : h.length = 32) (kl : k.length = 32) (hv : VtIn w a n c vs) (hw : VtIn w b m d us) (_hn : n ≤ 70) (_hm : m ≤ 70) (hc : chk ht vs = 0) (hc2 : chk hu us = 0) (hne : ht ≠ hu) : Calls Try.prog 171 #[.agg (ccl ht h (.slice a n c)).toArray, .agg (ccl hu k (.slice b m d)).toArray] w (CP w 9 0 z32 []) := by
  have HL := WirS.hide hl
  have HK := WirS.hide kl
  have HC1 := WirS.hide (fun U (hU : Below w.heap.size w U) => check_any U ht h a n c vs hl (hv.below hU))
  have HC2 := WirS.hide (fun U (hU : Below w.heap.size w U) => check_any U hu k b m d us kl (hw.below hU))
  have hbX := bag_box (w0 := w) (T := TC) (cs := (ccl ht h (.slice a n c))) (X := w.heap.size) (Bag.nil (Below.refl _ _)) rfl (w' := w.alloc (.cells (ccl ht h (.slice a n c)).toArray TC)) (At.new _ _ _) (Below.alloc (Below.refl _ _) (Nat.le_refl _) _)
  rw [hc] at HC1
  rw [hc2] at HC2
  have HNE := WirS.hide hne
  clear hl kl hv hw hc hc2 hne
  go_enter Try.func171, Try.ntmps171
  go_upto_region 0 with fail
  refine wp_region_lit ?_
  refine sV (.pointer (some ⟨w.heap.size, 0, none⟩)) (w.alloc (.cells (ccl ht h (.slice a n c)).toArray TC)) (by kernel_rfl) (by kernel_rfl) ?_
  simp only [Act.put, List.setIfInBounds_toArray, List.set_cons_succ, List.set_cons_zero]
  obtain ⟨X, eX⟩ : ∃ A, w.heap.size = A := ⟨_, rfl⟩
  rw [eX] at hbX ⊢
  clear eX
  generalize World.alloc w _ = x0 at *
  refine sV (.pointer (some ⟨x0.heap.size, 0, none⟩)) (x0.alloc (.cells (ccl hu k (.slice b m d)).toArray TC)) (by kernel_rfl) (by kernel_rfl) ?_
  simp only [Act.put, List.setIfInBounds_toArray, List.set_cons_succ, List.set_cons_zero]
  obtain ⟨Y, eY⟩ : ∃ A, x0.heap.size = A := ⟨_, rfl⟩
  have hbY := bag_box (T := TC) (cs := (ccl hu k (.slice b m d))) (X := Y) hbX eY.symm (w' := x0.alloc (.cells (ccl hu k (.slice b m d)).toArray TC)) (by rw [← eY]; exact At.new _ _ _) (Below.alloc (Below.refl _ _) (Nat.le_refl _) _)
  rw [eY]
  clear eY hbX
  generalize World.alloc x0 _ = x1 at *
  refine sV (.pointer (some ⟨x1.heap.size, 0, none⟩)) (x1.alloc (.cells zcm.toArray TC)) (by kernel_rfl) (by kernel_rfl) ?_
  simp only [Act.put, List.setIfInBounds_toArray, List.set_cons_succ, List.set_cons_zero]
  obtain ⟨Z, eZ⟩ : ∃ A, x1.heap.size = A := ⟨_, rfl⟩
  have hbZ := bag_box (T := TC) (cs := zcm) (X := Z) hbY eZ.symm (w' := x1.alloc (.cells zcm.toArray TC)) (by rw [← eZ]; exact At.new _ _ _) (Below.alloc (Below.refl _ _) (Nat.le_refl _) _)
  rw [eZ]
  clear eZ hbY
  generalize World.alloc x1 _ = x2 at *
  have H2 := WirS.hide hbZ
  clear hbZ
  go_upto_region 1 with fail
  refine wp_region_lit ?_
  refine sL (by kernel_rfl) _ _ (by rfl) _ (by kernel_rfl) H2.out.drop.drop.head _ _ UC rfl (by kernel_rfl) (by rw [ccl_len _ _ _ HL.out]) ?_
  simp only [Act.put, List.setIfInBounds_toArray, List.set_cons_succ, List.set_cons_zero]
  refine sL (by kernel_rfl) _ _ (by rfl) _ (by kernel_rfl) H2.out.drop.head _ _ UC rfl (by kernel_rfl) (by rw [ccl_len _ _ _ HK.out]) ?_
  simp only [Act.put, List.setIfInBounds_toArray, List.set_cons_succ, List.set_cons_zero]
  refine sV (.slice (some ⟨x2.heap.size, 0, none⟩) 2 2) (x2.alloc (.cells ((ccl ht h (.slice a n c)) ++ (ccl hu k (.slice b m d))).toArray TC)) (by kernel_rfl) (build_two (x := .tmp 11) (y := .tmp 12) _ _ h k _ _ _ _ _ _ HL.out HK.out (by kernel_rfl) (by kernel_rfl) (by kernel_rfl) x2) ?_
  simp only [Act.put, List.setIfInBounds_toArray, List.set_cons_succ, List.set_cons_zero]
  obtain ⟨L, eL⟩ : ∃ A, x2.heap.size = A := ⟨_, rfl⟩
  have hbL := bag_box (T := TC) (cs := ((ccl ht h (.slice a n c)) ++ (ccl hu k (.slice b m d)))) (X := L) H2.out eL.symm (w' := x2.alloc (.cells ((ccl ht h (.slice a n c)) ++ (ccl hu k (.slice b m d))).toArray TC)) (by rw [← eL]; exact At.new _ _ _) (Below.alloc (Below.refl _ _) (Nat.le_refl _) _)
  rw [eL]
  clear eL H2
  generalize World.alloc x2 _ = x3 at *
  have H3 := WirS.hide hbL
  clear hbL
  refine sV (.int .i64 2) (x3) (by kernel_rfl) (by kernel_rfl) ?_
  simp only [Act.put, List.setIfInBounds_toArray, List.set_cons_succ, List.set_cons_zero]
  refine sV (.int .i64 0) (x3) (by kernel_rfl) (by kernel_rfl) ?_
  simp only [Act.put, List.setIfInBounds_toArray, List.set_cons_succ, List.set_cons_zero]
  go_wp2_with fail
  refine wp_loop_rounds 3 ?_
  rw [rounds_succ]
  go_upto_region 3 with fail
  refine wp_region_lit ?_
  refine sV (.pointer (some ⟨L, 0, none⟩)) (x3) (by kernel_rfl) (by kernel_rfl) ?_
  simp only [Act.put, List.setIfInBounds_toArray, List.set_cons_succ, List.set_cons_zero]
  refine wpList_load_mid (by rfl) _ _ (by rfl) L 0 (by kernel_rfl) (ccl ht h (.slice a n c)) _ (range_fst H3.out.head) UC (by rfl) (by rw [ccl_len _ _ _ HL.out]; kernel_rfl) ?_
  simp only [Act.put, List.setIfInBounds_toArray, List.set_cons_succ, List.set_cons_zero]
  refine sV (.pointer (some ⟨x3.heap.size, 0, none⟩)) (x3.alloc (.cells zcm.toArray TC)) (by kernel_rfl) (by kernel_rfl) ?_
  simp only [Act.put, List.setIfInBounds_toArray, List.set_cons_succ, List.set_cons_zero]
  obtain ⟨T0, eT0⟩ : ∃ A, x3.heap.size = A := ⟨_, rfl⟩
  have hbT := bag_box (T := TC) (cs := zcm) (X := T0) H3.out eT0.symm (w' := x3.alloc (.cells zcm.toArray TC)) (by rw [← eT0]; exact At.new _ _ _) (Below.alloc (Below.refl _ _) (Nat.le_refl _) _)
  rw [eT0]
  clear eT0 H3
  generalize World.alloc x3 _ = x3a at *
  refine stepStore (by rfl) _ _ _ (by rfl) T0 (ccl ht h (.slice a n c)) (by kernel_rfl) (by kernel_rfl) hbT.head 34 (by kernel_rfl) (by rfl) (ccl_len _ _ _ HL.out) (one_ccl _ _ _ _ _) ?_
  simp only [Act.put]
  have HT0 := WirS.hide (bag_row hbT (ccl ht h (.slice a n c)))
  clear hbT
  generalize World.setRow x3a T0 _ = x3b at *
  go_upto_region 4 with fail
  refine wp_region_lit ?_
  refine sL (by kernel_rfl) _ _ (by rfl) _ (by kernel_rfl) HT0.out.head _ _ UC rfl (by kernel_rfl) (by rw [ccl_len _ _ _ HL.out]) ?_
  simp only [Act.put, List.setIfInBounds_toArray, List.set_cons_succ, List.set_cons_zero]
  refine sC (R := fun w' => Below x3b.heap.size x3b w') (by kernel_rfl) (by kernel_rfl) (HC1.out x3b HT0.out.low) ?_
  rintro x4 hb
  simp only [Act.put, List.setIfInBounds_toArray, List.set_cons_succ, List.set_cons_zero]
  have H4 := WirS.hide (HT0.out.more hb).drop
  clear hb HT0
  go_wp2_with fail
  rw [rounds_succ]
  go_upto_region 3 with fail
  refine wp_region_lit ?_
  refine sV (.pointer (some ⟨L, 34, none⟩)) (x4) (by kernel_rfl) (by kernel_rfl) ?_
  simp only [Act.put, List.setIfInBounds_toArray, List.set_cons_succ, List.set_cons_zero]
  refine wpList_load_mid (by rfl) _ _ (by rfl) L 34 (by kernel_rfl) (ccl hu k (.slice b m d)) _ (range_snd 34 (ccl_len _ _ _ HL.out) H4.out.head) UC (by rfl) (by rw [ccl_len _ _ _ HK.out]; kernel_rfl) ?_
  simp only [Act.put, List.setIfInBounds_toArray, List.set_cons_succ, List.set_cons_zero]
  refine sV (.pointer (some ⟨x4.heap.size, 0, none⟩)) (x4.alloc (.cells zcm.toArray TC)) (by kernel_rfl) (by kernel_rfl) ?_
  simp only [Act.put, List.setIfInBounds_toArray, List.set_cons_succ, List.set_cons_zero]
  obtain ⟨T1, eT1⟩ : ∃ A, x4.heap.size = A := ⟨_, rfl⟩
  have hbT := bag_box (T := TC) (cs := zcm) (X := T1) H4.out eT1.symm (w' := x4.alloc (.cells zcm.toArray TC)) (by rw [← eT1]; exact At.new _ _ _) (Below.alloc (Below.refl _ _) (Nat.le_refl _) _)
  rw [eT1]
  clear eT1 H4
  generalize World.alloc x4 _ = x4a at *
  refine stepStore (by rfl) _ _ _ (by rfl) T1 (ccl hu k (.slice b m d)) (by kernel_rfl) (by kernel_rfl) hbT.head 34 (by kernel_rfl) (by rfl) (ccl_len _ _ _ HK.out) (one_ccl _ _ _ _ _) ?_
  simp only [Act.put]
  have HT1 := WirS.hide (bag_row hbT (ccl hu k (.slice b m d)))
  clear hbT
  generalize World.setRow x4a T1 _ = x4b at *
  go_upto_region 4 with fail
  refine wp_region_lit ?_
  refine sL (by kernel_rfl) _ _ (by rfl) _ (by kernel_rfl) HT1.out.head _ _ UC rfl (by kernel_rfl) (by rw [ccl_len _ _ _ HK.out]) ?_
  simp only [Act.put, List.setIfInBounds_toArray, List.set_cons_succ, List.set_cons_zero]
  refine sC (R := fun w' => Below x4b.heap.size x4b w') (by kernel_rfl) (by kernel_rfl) (HC2.out x4b HT1.out.low) ?_
  rintro x5 hb
  simp only [Act.put, List.setIfInBounds_toArray, List.set_cons_succ, List.set_cons_zero]
  have H5 := WirS.hide (HT1.out.more hb).drop
  clear hb HT1
  go_wp2_with fail
  rw [rounds_succ]
  go_upto_region 8 with fail
  refine wp_region_lit ?_
  refine sV (.pointer (some ⟨X, 0, none⟩)) (x5) (by kernel_rfl) (by kernel_rfl) ?_
  simp only [Act.put, List.setIfInBounds_toArray, List.set_cons_succ, List.set_cons_zero]
  refine sP (by kernel_rfl) _ _ (by rfl) ⟨X, 0, none⟩ (by kernel_rfl) (.int .i64 ht) (H5.out.drop.drop.drop.head.cell 0) (by kernel_rfl) ?_
  simp only [Act.put, List.setIfInBounds_toArray, List.set_cons_succ, List.set_cons_zero]
  refine sV (.pointer (some ⟨Y, 0, none⟩)) (x5) (by kernel_rfl) (by kernel_rfl) ?_
  simp only [Act.put, List.setIfInBounds_toArray, List.set_cons_succ, List.set_cons_zero]
  refine sP (by kernel_rfl) _ _ (by rfl) ⟨Y, 0, none⟩ (by kernel_rfl) (.int .i64 hu) (H5.out.drop.drop.head.cell 0) (by kernel_rfl) ?_
  simp only [Act.put, List.setIfInBounds_toArray, List.set_cons_succ, List.set_cons_zero]
  refine sB (by kernel_rfl) .neq _ _ _ _ (by rfl) (.int .i64 ht) (.int .i64 hu) (by kernel_rfl) (by kernel_rfl) (.bool true) (neI HNE.out x5) (by kernel_rfl) ?_
  simp only [Act.put, List.setIfInBounds_toArray, List.set_cons_succ, List.set_cons_zero]
  refine sV (.bool true) (x5) (by kernel_rfl) (by kernel_rfl) ?_
  simp only [Act.put, List.setIfInBounds_toArray, List.set_cons_succ, List.set_cons_zero]
  with_reducible refine sS (by kernel_rfl) ?_
  simp only [Act.put, List.setIfInBounds_toArray, List.set_cons_succ, List.set_cons_zero]
  with_reducible refine sS (by kernel_rfl) ?_
  simp only [Act.put, List.setIfInBounds_toArray, List.set_cons_succ, List.set_cons_zero]
  with_reducible refine sS (by kernel_rfl) ?_
  simp only [Act.put, List.setIfInBounds_toArray, List.set_cons_succ, List.set_cons_zero]
  with_reducible refine sS (by kernel_rfl) ?_
  simp only [Act.put, List.setIfInBounds_toArray, List.set_cons_succ, List.set_cons_zero]
  with_reducible refine sS (by kernel_rfl) ?_
  simp only [Act.put, List.setIfInBounds_toArray, List.set_cons_succ, List.set_cons_zero]
  refine sV (.bool true) (x5) (by kernel_rfl) (by kernel_rfl) ?_
  simp only [Act.put, List.setIfInBounds_toArray, List.set_cons_succ, List.set_cons_zero]
  go_upto_region 9 with fail
  refine wp_region_lit ?_
  refine sV (.agg zcm.toArray) (x5) (by kernel_rfl) (by kernel_rfl) ?_
  simp only [Act.put, List.setIfInBounds_toArray, List.set_cons_succ, List.set_cons_zero]
  have HS := WirS.hide H5.out.drop
  clear H5
  refine stepStore (by rfl) _ _ _ (by rfl) Z zcm (by kernel_rfl) (by kernel_rfl) HS.out.head 34 (by kernel_rfl) (by rfl) (by rfl) (one_ccl _ _ _ _ _) ?_
  simp only [Act.put]
  have HF := WirS.hide (bag_row HS.out zcm)
  clear HS
  generalize World.setRow x5 Z _ = xf at *
  go_wp2_with fail
  refine bodyPost_ret (retRow2 HF.out.head Try.results171 _ (by rfl) (.int .i64 9) (by rfl) _ 34 UC rfl (by kernel_rfl) (by rfl)) rfl ?_
  exact cp_none rfl HF.out.low
set_option maxRecDepth 20000 in
set_option maxHeartbeats 16000000 in
theorem join_d (w : World) (ht : Int) (h k : List Int) (a b : Option Addr) (n c m d : Nat) (vs us : List Vt) (hl : h.length = 32) (kl : k.length = 32) (hv : VtIn w a n c vs) (hw : VtIn w b m d us) (_hn : n ≤ 70) (_hm : m ≤ 70) (hc : chk ht vs = 0) (hc2 : chk ht us = 0) (hne : h ≠ k) : Calls Try.prog 171 #[.agg (ccl ht h (.slice a n c)).toArray, .agg (ccl ht k (.slice b m d)).toArray] w (CP w 9 0 z32 []) := by
  have HL := WirS.hide hl
  have HK := WirS.hide kl
  have HC1 := WirS.hide (fun U (hU : Below w.heap.size w U) => check_any U ht h a n c vs hl (hv.below hU))
  have HC2 := WirS.hide (fun U (hU : Below w.heap.size w U) => check_any U ht k b m d us kl (hw.below hU))
  have hbX := bag_box (w0 := w) (T := TC) (cs := (ccl ht h (.slice a n c))) (X := w.heap.size) (Bag.nil (Below.refl _ _)) rfl (w' := w.alloc (.cells (ccl ht h (.slice a n c)).toArray TC)) (At.new _ _ _) (Below.alloc (Below.refl _ _) (Nat.le_refl _) _)
  rw [hc] at HC1
  rw [hc2] at HC2
  have HNE := WirS.hide (fun W => show (binOp .neq 34 (.agg (b8 h).toArray) (.agg (b8 k).toArray)).run Try.prog W = .ok (.bool true) W from by rw [neHg h k hl kl W]; simp [hne])
  clear hl kl hv hw hc hc2 hne
  go_enter Try.func171, Try.ntmps171
  go_upto_region 0 with fail
  refine wp_region_lit ?_
  refine sV (.pointer (some ⟨w.heap.size, 0, none⟩)) (w.alloc (.cells (ccl ht h (.slice a n c)).toArray TC)) (by kernel_rfl) (by kernel_rfl) ?_
  simp only [Act.put, List.setIfInBounds_toArray, List.set_cons_succ, List.set_cons_zero]
  obtain ⟨X, eX⟩ : ∃ A, w.heap.size = A := ⟨_, rfl⟩
  rw [eX] at hbX ⊢
  clear eX
  generalize World.alloc w _ = x0 at *
  refine sV (.pointer (some ⟨x0.heap.size, 0, none⟩)) (x0.alloc (.cells (ccl ht k (.slice b m d)).toArray TC)) (by kernel_rfl) (by kernel_rfl) ?_
  simp only [Act.put, List.setIfInBounds_toArray, List.set_cons_succ, List.set_cons_zero]
  obtain ⟨Y, eY⟩ : ∃ A, x0.heap.size = A := ⟨_, rfl⟩
  have hbY := bag_box (T := TC) (cs := (ccl ht k (.slice b m d))) (X := Y) hbX eY.symm (w' := x0.alloc (.cells (ccl ht k (.slice b m d)).toArray TC)) (by rw [← eY]; exact At.new _ _ _) (Below.alloc (Below.refl _ _) (Nat.le_refl _) _)
  rw [eY]
  clear eY hbX
  generalize World.alloc x0 _ = x1 at *
  refine sV (.pointer (some ⟨x1.heap.size, 0, none⟩)) (x1.alloc (.cells zcm.toArray TC)) (by kernel_rfl) (by kernel_rfl) ?_
  simp only [Act.put, List.setIfInBounds_toArray, List.set_cons_succ, List.set_cons_zero]
  obtain ⟨Z, eZ⟩ : ∃ A, x1.heap.size = A := ⟨_, rfl⟩
  have hbZ := bag_box (T := TC) (cs := zcm) (X := Z) hbY eZ.symm (w' := x1.alloc (.cells zcm.toArray TC)) (by rw [← eZ]; exact At.new _ _ _) (Below.alloc (Below.refl _ _) (Nat.le_refl _) _)
  rw [eZ]
  clear eZ hbY
  generalize World.alloc x1 _ = x2 at *
  have H2 := WirS.hide hbZ
  clear hbZ
  go_upto_region 1 with fail
  refine wp_region_lit ?_
  refine sL (by kernel_rfl) _ _ (by rfl) _ (by kernel_rfl) H2.out.drop.drop.head _ _ UC rfl (by kernel_rfl) (by rw [ccl_len _ _ _ HL.out]) ?_
  simp only [Act.put, List.setIfInBounds_toArray, List.set_cons_succ, List.set_cons_zero]
  refine sL (by kernel_rfl) _ _ (by rfl) _ (by kernel_rfl) H2.out.drop.head _ _ UC rfl (by kernel_rfl) (by rw [ccl_len _ _ _ HK.out]) ?_
  simp only [Act.put, List.setIfInBounds_toArray, List.set_cons_succ, List.set_cons_zero]
  refine sV (.slice (some ⟨x2.heap.size, 0, none⟩) 2 2) (x2.alloc (.cells ((ccl ht h (.slice a n c)) ++ (ccl ht k (.slice b m d))).toArray TC)) (by kernel_rfl) (build_two (x := .tmp 11) (y := .tmp 12) _ _ h k _ _ _ _ _ _ HL.out HK.out (by kernel_rfl) (by kernel_rfl) (by kernel_rfl) x2) ?_
  simp only [Act.put, List.setIfInBounds_toArray, List.set_cons_succ, List.set_cons_zero]
  obtain ⟨L, eL⟩ : ∃ A, x2.heap.size = A := ⟨_, rfl⟩
  have hbL := bag_box (T := TC) (cs := ((ccl ht h (.slice a n c)) ++ (ccl ht k (.slice b m d)))) (X := L) H2.out eL.symm (w' := x2.alloc (.cells ((ccl ht h (.slice a n c)) ++ (ccl ht k (.slice b m d))).toArray TC)) (by rw [← eL]; exact At.new _ _ _) (Below.alloc (Below.refl _ _) (Nat.le_refl _) _)
  rw [eL]
  clear eL H2
  generalize World.alloc x2 _ = x3 at *
  have H3 := WirS.hide hbL
  clear hbL
  refine sV (.int .i64 2) (x3) (by kernel_rfl) (by kernel_rfl) ?_
  simp only [Act.put, List.setIfInBounds_toArray, List.set_cons_succ, List.set_cons_zero]
  refine sV (.int .i64 0) (x3) (by kernel_rfl) (by kernel_rfl) ?_
  simp only [Act.put, List.setIfInBounds_toArray, List.set_cons_succ, List.set_cons_zero]
  go_wp2_with fail
  refine wp_loop_rounds 3 ?_
  rw [rounds_succ]
  go_upto_region 3 with fail
  refine wp_region_lit ?_
  refine sV (.pointer (some ⟨L, 0, none⟩)) (x3) (by kernel_rfl) (by kernel_rfl) ?_
  simp only [Act.put, List.setIfInBounds_toArray, List.set_cons_succ, List.set_cons_zero]
  refine wpList_load_mid (by rfl) _ _ (by rfl) L 0 (by kernel_rfl) (ccl ht h (.slice a n c)) _ (range_fst H3.out.head) UC (by rfl) (by rw [ccl_len _ _ _ HL.out]; kernel_rfl) ?_
  simp only [Act.put, List.setIfInBounds_toArray, List.set_cons_succ, List.set_cons_zero]
  refine sV (.pointer (some ⟨x3.heap.size, 0, none⟩)) (x3.alloc (.cells zcm.toArray TC)) (by kernel_rfl) (by kernel_rfl) ?_
  simp only [Act.put, List.setIfInBounds_toArray, List.set_cons_succ, List.set_cons_zero]
  obtain ⟨T0, eT0⟩ : ∃ A, x3.heap.size = A := ⟨_, rfl⟩
  have hbT := bag_box (T := TC) (cs := zcm) (X := T0) H3.out eT0.symm (w' := x3.alloc (.cells zcm.toArray TC)) (by rw [← eT0]; exact At.new _ _ _) (Below.alloc (Below.refl _ _) (Nat.le_refl _) _)
  rw [eT0]
  clear eT0 H3
  generalize World.alloc x3 _ = x3a at *
  refine stepStore (by rfl) _ _ _ (by rfl) T0 (ccl ht h (.slice a n c)) (by kernel_rfl) (by kernel_rfl) hbT.head 34 (by kernel_rfl) (by rfl) (ccl_len _ _ _ HL.out) (one_ccl _ _ _ _ _) ?_
  simp only [Act.put]
  have HT0 := WirS.hide (bag_row hbT (ccl ht h (.slice a n c)))
  clear hbT
  generalize World.setRow x3a T0 _ = x3b at *
  go_upto_region 4 with fail
  refine wp_region_lit ?_
  refine sL (by kernel_rfl) _ _ (by rfl) _ (by kernel_rfl) HT0.out.head _ _ UC rfl (by kernel_rfl) (by rw [ccl_len _ _ _ HL.out]) ?_
  simp only [Act.put, List.setIfInBounds_toArray, List.set_cons_succ, List.set_cons_zero]
  refine sC (R := fun w' => Below x3b.heap.size x3b w') (by kernel_rfl) (by kernel_rfl) (HC1.out x3b HT0.out.low) ?_
  rintro x4 hb
  simp only [Act.put, List.setIfInBounds_toArray, List.set_cons_succ, List.set_cons_zero]
  have H4 := WirS.hide (HT0.out.more hb).drop
  clear hb HT0
  go_wp2_with fail
  rw [rounds_succ]
  go_upto_region 3 with fail
  refine wp_region_lit ?_
  refine sV (.pointer (some ⟨L, 34, none⟩)) (x4) (by kernel_rfl) (by kernel_rfl) ?_
  simp only [Act.put, List.setIfInBounds_toArray, List.set_cons_succ, List.set_cons_zero]
  refine wpList_load_mid (by rfl) _ _ (by rfl) L 34 (by kernel_rfl) (ccl ht k (.slice b m d)) _ (range_snd 34 (ccl_len _ _ _ HL.out) H4.out.head) UC (by rfl) (by rw [ccl_len _ _ _ HK.out]; kernel_rfl) ?_
  simp only [Act.put, List.setIfInBounds_toArray, List.set_cons_succ, List.set_cons_zero]
  refine sV (.pointer (some ⟨x4.heap.size, 0, none⟩)) (x4.alloc (.cells zcm.toArray TC)) (by kernel_rfl) (by kernel_rfl) ?_
  simp only [Act.put, List.setIfInBounds_toArray, List.set_cons_succ, List.set_cons_zero]
  obtain ⟨T1, eT1⟩ : ∃ A, x4.heap.size = A := ⟨_, rfl⟩
  have hbT := bag_box (T := TC) (cs := zcm) (X := T1) H4.out eT1.symm (w' := x4.alloc (.cells zcm.toArray TC)) (by rw [← eT1]; exact At.new _ _ _) (Below.alloc (Below.refl _ _) (Nat.le_refl _) _)
  rw [eT1]
  clear eT1 H4
  generalize World.alloc x4 _ = x4a at *
  refine stepStore (by rfl) _ _ _ (by rfl) T1 (ccl ht k (.slice b m d)) (by kernel_rfl) (by kernel_rfl) hbT.head 34 (by kernel_rfl) (by rfl) (ccl_len _ _ _ HK.out) (one_ccl _ _ _ _ _) ?_
  simp only [Act.put]
  have HT1 := WirS.hide (bag_row hbT (ccl ht k (.slice b m d)))
  clear hbT
  generalize World.setRow x4a T1 _ = x4b at *
  go_upto_region 4 with fail
  refine wp_region_lit ?_
  refine sL (by kernel_rfl) _ _ (by rfl) _ (by kernel_rfl) HT1.out.head _ _ UC rfl (by kernel_rfl) (by rw [ccl_len _ _ _ HK.out]) ?_
  simp only [Act.put, List.setIfInBounds_toArray, List.set_cons_succ, List.set_cons_zero]
  refine sC (R := fun w' => Below x4b.heap.size x4b w') (by kernel_rfl) (by kernel_rfl) (HC2.out x4b HT1.out.low) ?_
  rintro x5 hb
  simp only [Act.put, List.setIfInBounds_toArray, List.set_cons_succ, List.set_cons_zero]
  have H5 := WirS.hide (HT1.out.more hb).drop
  clear hb HT1
  go_wp2_with fail
  rw [rounds_succ]
  go_upto_region 8 with fail
  refine wp_region_lit ?_
  refine sV (.pointer (some ⟨X, 0, none⟩)) (x5) (by kernel_rfl) (by kernel_rfl) ?_
  simp only [Act.put, List.setIfInBounds_toArray, List.set_cons_succ, List.set_cons_zero]
  refine sP (by kernel_rfl) _ _ (by rfl) ⟨X, 0, none⟩ (by kernel_rfl) (.int .i64 ht) (H5.out.drop.drop.drop.head.cell 0) (by kernel_rfl) ?_
  simp only [Act.put, List.setIfInBounds_toArray, List.set_cons_succ, List.set_cons_zero]
  refine sV (.pointer (some ⟨Y, 0, none⟩)) (x5) (by kernel_rfl) (by kernel_rfl) ?_
  simp only [Act.put, List.setIfInBounds_toArray, List.set_cons_succ, List.set_cons_zero]
  refine sP (by kernel_rfl) _ _ (by rfl) ⟨Y, 0, none⟩ (by kernel_rfl) (.int .i64 ht) (H5.out.drop.drop.head.cell 0) (by kernel_rfl) ?_
  simp only [Act.put, List.setIfInBounds_toArray, List.set_cons_succ, List.set_cons_zero]
  refine sB (by kernel_rfl) .neq _ _ _ _ (by rfl) (.int .i64 ht) (.int .i64 ht) (by kernel_rfl) (by kernel_rfl) (.bool false) (neI0 ht x5) (by kernel_rfl) ?_
  simp only [Act.put, List.setIfInBounds_toArray, List.set_cons_succ, List.set_cons_zero]
  refine sV (.bool false) (x5) (by kernel_rfl) (by kernel_rfl) ?_
  simp only [Act.put, List.setIfInBounds_toArray, List.set_cons_succ, List.set_cons_zero]
  refine sV (.pointer (some ⟨X, 1, none⟩)) (x5) (by kernel_rfl) (by kernel_rfl) ?_
  simp only [Act.put, List.setIfInBounds_toArray, List.set_cons_succ, List.set_cons_zero]
  refine wpList_load_mid' (by kernel_rfl) _ _ (by rfl) X 1 (by kernel_rfl) (b8 h) _ (range_hash H5.out.drop.drop.drop.head) Try.underlying34 (by rfl) (by rw [b8_len, HL.out]; kernel_rfl) ?_
  simp only [Act.put, List.setIfInBounds_toArray, List.set_cons_succ, List.set_cons_zero]
  refine sV (.pointer (some ⟨Y, 1, none⟩)) (x5) (by kernel_rfl) (by kernel_rfl) ?_
  simp only [Act.put, List.setIfInBounds_toArray, List.set_cons_succ, List.set_cons_zero]
  refine wpList_load_mid' (by kernel_rfl) _ _ (by rfl) Y 1 (by kernel_rfl) (b8 k) _ (range_hash H5.out.drop.drop.head) Try.underlying34 (by rfl) (by rw [b8_len, HK.out]; kernel_rfl) ?_
  simp only [Act.put, List.setIfInBounds_toArray, List.set_cons_succ, List.set_cons_zero]
  refine sB (by kernel_rfl) .neq _ _ _ _ (by rfl) (.agg (b8 h).toArray) (.agg (b8 k).toArray) (by kernel_rfl) (by kernel_rfl) (.bool true) (HNE.out x5) (by kernel_rfl) ?_
  simp only [Act.put, List.setIfInBounds_toArray, List.set_cons_succ, List.set_cons_zero]
  refine sV (.bool true) (x5) (by kernel_rfl) (by kernel_rfl) ?_
  simp only [Act.put, List.setIfInBounds_toArray, List.set_cons_succ, List.set_cons_zero]
  go_upto_region 9 with fail
  refine wp_region_lit ?_
  refine sV (.agg zcm.toArray) (x5) (by kernel_rfl) (by kernel_rfl) ?_
  simp only [Act.put, List.setIfInBounds_toArray, List.set_cons_succ, List.set_cons_zero]
  have HS := WirS.hide H5.out.drop
  clear H5
  refine stepStore (by rfl) _ _ _ (by rfl) Z zcm (by kernel_rfl) (by kernel_rfl) HS.out.head 34 (by kernel_rfl) (by rfl) (by rfl) (one_ccl _ _ _ _ _) ?_
  simp only [Act.put]
  have HF := WirS.hide (bag_row HS.out zcm)
  clear HS
  generalize World.setRow x5 Z _ = xf at *
  go_wp2_with fail
  refine bodyPost_ret (retRow2 HF.out.head Try.results171 _ (by rfl) (.int .i64 9) (by rfl) _ 34 UC rfl (by kernel_rfl) (by rfl)) rfl ?_
  exact cp_none rfl HF.out.low
set_option maxRecDepth 20000 in
set_option maxHeartbeats 16000000 in
theorem join_e (w : World) (ht : Int) (h : List Int) (a b : Option Addr) (n c m d : Nat) (vs us : List Vt) (hl : h.length = 32) (hv : VtIn w a n c vs) (hw : VtIn w b m d us) (hn : n ≤ 70) (hm : m ≤ 70) (hc : chk ht vs = 0) (hc2 : chk ht us = 0) (hm0 : mg vs us = none) : Calls Try.prog 171 #[.agg (ccl ht h (.slice a n c)).toArray, .agg (ccl ht h (.slice b m d)).toArray] w (CP w 8 0 z32 []) := by
  have HL := WirS.hide hl
  have HK := WirS.hide hl
  have HC1 := WirS.hide (fun U (hU : Below w.heap.size w U) => check_any U ht h a n c vs hl (hv.below hU))
  have HC2 := WirS.hide (fun U (hU : Below w.heap.size w U) => check_any U ht h b m d us hl (hw.below hU))
  have hbX := bag_box (w0 := w) (T := TC) (cs := (ccl ht h (.slice a n c))) (X := w.heap.size) (Bag.nil (Below.refl _ _)) rfl (w' := w.alloc (.cells (ccl ht h (.slice a n c)).toArray TC)) (At.new _ _ _) (Below.alloc (Below.refl _ _) (Nat.le_refl _) _)
  have HMG := WirS.hide (fun (U : World) (B : Nat) (hU : Below w.heap.size w U) (hB : At U B TL [.slice a n c, .slice b m d]) => merge_any U B a b n c m d vs us hB (hv.below hU) (hw.below hU) ((chk_up ht vs).1 hc).2.2 ((chk_up ht us).1 hc2).2.2 hn hm)
  have HNE := WirS.hide (fun W => show (binOp .neq 34 (.agg (b8 h).toArray) (.agg (b8 h).toArray)).run Try.prog W = .ok (.bool false) W from by rw [neHg h h hl hl W]; simp)
  rw [hc] at HC1
  rw [hc2] at HC2
  rw [hm0] at HMG
  clear hl hv hw hc hc2 hm0
  go_enter Try.func171, Try.ntmps171
  go_upto_region 0 with fail
  refine wp_region_lit ?_
  refine sV (.pointer (some ⟨w.heap.size, 0, none⟩)) (w.alloc (.cells (ccl ht h (.slice a n c)).toArray TC)) (by kernel_rfl) (by kernel_rfl) ?_
  simp only [Act.put, List.setIfInBounds_toArray, List.set_cons_succ, List.set_cons_zero]
  obtain ⟨X, eX⟩ : ∃ A, w.heap.size = A := ⟨_, rfl⟩
  rw [eX] at hbX ⊢
  clear eX
  generalize World.alloc w _ = x0 at *
  refine sV (.pointer (some ⟨x0.heap.size, 0, none⟩)) (x0.alloc (.cells (ccl ht h (.slice b m d)).toArray TC)) (by kernel_rfl) (by kernel_rfl) ?_
  simp only [Act.put, List.setIfInBounds_toArray, List.set_cons_succ, List.set_cons_zero]
  obtain ⟨Y, eY⟩ : ∃ A, x0.heap.size = A := ⟨_, rfl⟩
  have hbY := bag_box (T := TC) (cs := (ccl ht h (.slice b m d))) (X := Y) hbX eY.symm (w' := x0.alloc (.cells (ccl ht h (.slice b m d)).toArray TC)) (by rw [← eY]; exact At.new _ _ _) (Below.alloc (Below.refl _ _) (Nat.le_refl _) _)
  rw [eY]
  clear eY hbX
  generalize World.alloc x0 _ = x1 at *
  refine sV (.pointer (some ⟨x1.heap.size, 0, none⟩)) (x1.alloc (.cells zcm.toArray TC)) (by kernel_rfl) (by kernel_rfl) ?_
  simp only [Act.put, List.setIfInBounds_toArray, List.set_cons_succ, List.set_cons_zero]
  obtain ⟨Z, eZ⟩ : ∃ A, x1.heap.size = A := ⟨_, rfl⟩
  have hbZ := bag_box (T := TC) (cs := zcm) (X := Z) hbY eZ.symm (w' := x1.alloc (.cells zcm.toArray TC)) (by rw [← eZ]; exact At.new _ _ _) (Below.alloc (Below.refl _ _) (Nat.le_refl _) _)
  rw [eZ]
  clear eZ hbY
  generalize World.alloc x1 _ = x2 at *
  have H2 := WirS.hide hbZ
  clear hbZ
  go_upto_region 1 with fail
  refine wp_region_lit ?_
  refine sL (by kernel_rfl) _ _ (by rfl) _ (by kernel_rfl) H2.out.drop.drop.head _ _ UC rfl (by kernel_rfl) (by rw [ccl_len _ _ _ HL.out]) ?_
  simp only [Act.put, List.setIfInBounds_toArray, List.set_cons_succ, List.set_cons_zero]
  refine sL (by kernel_rfl) _ _ (by rfl) _ (by kernel_rfl) H2.out.drop.head _ _ UC rfl (by kernel_rfl) (by rw [ccl_len _ _ _ HK.out]) ?_
  simp only [Act.put, List.setIfInBounds_toArray, List.set_cons_succ, List.set_cons_zero]
  refine sV (.slice (some ⟨x2.heap.size, 0, none⟩) 2 2) (x2.alloc (.cells ((ccl ht h (.slice a n c)) ++ (ccl ht h (.slice b m d))).toArray TC)) (by kernel_rfl) (build_two (x := .tmp 11) (y := .tmp 12) _ _ h h _ _ _ _ _ _ HL.out HK.out (by kernel_rfl) (by kernel_rfl) (by kernel_rfl) x2) ?_
  simp only [Act.put, List.setIfInBounds_toArray, List.set_cons_succ, List.set_cons_zero]
  obtain ⟨L, eL⟩ : ∃ A, x2.heap.size = A := ⟨_, rfl⟩
  have hbL := bag_box (T := TC) (cs := ((ccl ht h (.slice a n c)) ++ (ccl ht h (.slice b m d)))) (X := L) H2.out eL.symm (w' := x2.alloc (.cells ((ccl ht h (.slice a n c)) ++ (ccl ht h (.slice b m d))).toArray TC)) (by rw [← eL]; exact At.new _ _ _) (Below.alloc (Below.refl _ _) (Nat.le_refl _) _)
  rw [eL]
  clear eL H2
  generalize World.alloc x2 _ = x3 at *
  have H3 := WirS.hide hbL
  clear hbL
  refine sV (.int .i64 2) (x3) (by kernel_rfl) (by kernel_rfl) ?_
  simp only [Act.put, List.setIfInBounds_toArray, List.set_cons_succ, List.set_cons_zero]
  refine sV (.int .i64 0) (x3) (by kernel_rfl) (by kernel_rfl) ?_
  simp only [Act.put, List.setIfInBounds_toArray, List.set_cons_succ, List.set_cons_zero]
  go_wp2_with fail
  refine wp_loop_rounds 3 ?_
  rw [rounds_succ]
  go_upto_region 3 with fail
  refine wp_region_lit ?_
  refine sV (.pointer (some ⟨L, 0, none⟩)) (x3) (by kernel_rfl) (by kernel_rfl) ?_
  simp only [Act.put, List.setIfInBounds_toArray, List.set_cons_succ, List.set_cons_zero]
  refine wpList_load_mid (by rfl) _ _ (by rfl) L 0 (by kernel_rfl) (ccl ht h (.slice a n c)) _ (range_fst H3.out.head) UC (by rfl) (by rw [ccl_len _ _ _ HL.out]; kernel_rfl) ?_
  simp only [Act.put, List.setIfInBounds_toArray, List.set_cons_succ, List.set_cons_zero]
  refine sV (.pointer (some ⟨x3.heap.size, 0, none⟩)) (x3.alloc (.cells zcm.toArray TC)) (by kernel_rfl) (by kernel_rfl) ?_
  simp only [Act.put, List.setIfInBounds_toArray, List.set_cons_succ, List.set_cons_zero]
  obtain ⟨T0, eT0⟩ : ∃ A, x3.heap.size = A := ⟨_, rfl⟩
  have hbT := bag_box (T := TC) (cs := zcm) (X := T0) H3.out eT0.symm (w' := x3.alloc (.cells zcm.toArray TC)) (by rw [← eT0]; exact At.new _ _ _) (Below.alloc (Below.refl _ _) (Nat.le_refl _) _)
  rw [eT0]
  clear eT0 H3
  generalize World.alloc x3 _ = x3a at *
  refine stepStore (by rfl) _ _ _ (by rfl) T0 (ccl ht h (.slice a n c)) (by kernel_rfl) (by kernel_rfl) hbT.head 34 (by kernel_rfl) (by rfl) (ccl_len _ _ _ HL.out) (one_ccl _ _ _ _ _) ?_
  simp only [Act.put]
  have HT0 := WirS.hide (bag_row hbT (ccl ht h (.slice a n c)))
  clear hbT
  generalize World.setRow x3a T0 _ = x3b at *
  go_upto_region 4 with fail
  refine wp_region_lit ?_
  refine sL (by kernel_rfl) _ _ (by rfl) _ (by kernel_rfl) HT0.out.head _ _ UC rfl (by kernel_rfl) (by rw [ccl_len _ _ _ HL.out]) ?_
  simp only [Act.put, List.setIfInBounds_toArray, List.set_cons_succ, List.set_cons_zero]
  refine sC (R := fun w' => Below x3b.heap.size x3b w') (by kernel_rfl) (by kernel_rfl) (HC1.out x3b HT0.out.low) ?_
  rintro x4 hb
  simp only [Act.put, List.setIfInBounds_toArray, List.set_cons_succ, List.set_cons_zero]
  have H4 := WirS.hide (HT0.out.more hb).drop
  clear hb HT0
  go_wp2_with fail
  rw [rounds_succ]
  go_upto_region 3 with fail
  refine wp_region_lit ?_
  refine sV (.pointer (some ⟨L, 34, none⟩)) (x4) (by kernel_rfl) (by kernel_rfl) ?_
  simp only [Act.put, List.setIfInBounds_toArray, List.set_cons_succ, List.set_cons_zero]
  refine wpList_load_mid (by rfl) _ _ (by rfl) L 34 (by kernel_rfl) (ccl ht h (.slice b m d)) _ (range_snd 34 (ccl_len _ _ _ HL.out) H4.out.head) UC (by rfl) (by rw [ccl_len _ _ _ HK.out]; kernel_rfl) ?_
  simp only [Act.put, List.setIfInBounds_toArray, List.set_cons_succ, List.set_cons_zero]
  refine sV (.pointer (some ⟨x4.heap.size, 0, none⟩)) (x4.alloc (.cells zcm.toArray TC)) (by kernel_rfl) (by kernel_rfl) ?_
  simp only [Act.put, List.setIfInBounds_toArray, List.set_cons_succ, List.set_cons_zero]
  obtain ⟨T1, eT1⟩ : ∃ A, x4.heap.size = A := ⟨_, rfl⟩
  have hbT := bag_box (T := TC) (cs := zcm) (X := T1) H4.out eT1.symm (w' := x4.alloc (.cells zcm.toArray TC)) (by rw [← eT1]; exact At.new _ _ _) (Below.alloc (Below.refl _ _) (Nat.le_refl _) _)
  rw [eT1]
  clear eT1 H4
  generalize World.alloc x4 _ = x4a at *
  refine stepStore (by rfl) _ _ _ (by rfl) T1 (ccl ht h (.slice b m d)) (by kernel_rfl) (by kernel_rfl) hbT.head 34 (by kernel_rfl) (by rfl) (ccl_len _ _ _ HK.out) (one_ccl _ _ _ _ _) ?_
  simp only [Act.put]
  have HT1 := WirS.hide (bag_row hbT (ccl ht h (.slice b m d)))
  clear hbT
  generalize World.setRow x4a T1 _ = x4b at *
  go_upto_region 4 with fail
  refine wp_region_lit ?_
  refine sL (by kernel_rfl) _ _ (by rfl) _ (by kernel_rfl) HT1.out.head _ _ UC rfl (by kernel_rfl) (by rw [ccl_len _ _ _ HK.out]) ?_
  simp only [Act.put, List.setIfInBounds_toArray, List.set_cons_succ, List.set_cons_zero]
  refine sC (R := fun w' => Below x4b.heap.size x4b w') (by kernel_rfl) (by kernel_rfl) (HC2.out x4b HT1.out.low) ?_
  rintro x5 hb
  simp only [Act.put, List.setIfInBounds_toArray, List.set_cons_succ, List.set_cons_zero]
  have H5 := WirS.hide (HT1.out.more hb).drop
  clear hb HT1
  go_wp2_with fail
  rw [rounds_succ]
  go_upto_region 8 with fail
  refine wp_region_lit ?_
  refine sV (.pointer (some ⟨X, 0, none⟩)) (x5) (by kernel_rfl) (by kernel_rfl) ?_
  simp only [Act.put, List.setIfInBounds_toArray, List.set_cons_succ, List.set_cons_zero]
  refine sP (by kernel_rfl) _ _ (by rfl) ⟨X, 0, none⟩ (by kernel_rfl) (.int .i64 ht) (H5.out.drop.drop.drop.head.cell 0) (by kernel_rfl) ?_
  simp only [Act.put, List.setIfInBounds_toArray, List.set_cons_succ, List.set_cons_zero]
  refine sV (.pointer (some ⟨Y, 0, none⟩)) (x5) (by kernel_rfl) (by kernel_rfl) ?_
  simp only [Act.put, List.setIfInBounds_toArray, List.set_cons_succ, List.set_cons_zero]
  refine sP (by kernel_rfl) _ _ (by rfl) ⟨Y, 0, none⟩ (by kernel_rfl) (.int .i64 ht) (H5.out.drop.drop.head.cell 0) (by kernel_rfl) ?_
  simp only [Act.put, List.setIfInBounds_toArray, List.set_cons_succ, List.set_cons_zero]
  refine sB (by kernel_rfl) .neq _ _ _ _ (by rfl) (.int .i64 ht) (.int .i64 ht) (by kernel_rfl) (by kernel_rfl) (.bool false) (neI0 ht x5) (by kernel_rfl) ?_
  simp only [Act.put, List.setIfInBounds_toArray, List.set_cons_succ, List.set_cons_zero]
  refine sV (.bool false) (x5) (by kernel_rfl) (by kernel_rfl) ?_
  simp only [Act.put, List.setIfInBounds_toArray, List.set_cons_succ, List.set_cons_zero]
  refine sV (.pointer (some ⟨X, 1, none⟩)) (x5) (by kernel_rfl) (by kernel_rfl) ?_
  simp only [Act.put, List.setIfInBounds_toArray, List.set_cons_succ, List.set_cons_zero]
  refine wpList_load_mid' (by kernel_rfl) _ _ (by rfl) X 1 (by kernel_rfl) (b8 h) _ (range_hash H5.out.drop.drop.drop.head) Try.underlying34 (by rfl) (by rw [b8_len, HL.out]; kernel_rfl) ?_
  simp only [Act.put, List.setIfInBounds_toArray, List.set_cons_succ, List.set_cons_zero]
  refine sV (.pointer (some ⟨Y, 1, none⟩)) (x5) (by kernel_rfl) (by kernel_rfl) ?_
  simp only [Act.put, List.setIfInBounds_toArray, List.set_cons_succ, List.set_cons_zero]
  refine wpList_load_mid' (by kernel_rfl) _ _ (by rfl) Y 1 (by kernel_rfl) (b8 h) _ (range_hash H5.out.drop.drop.head) Try.underlying34 (by rfl) (by rw [b8_len, HK.out]; kernel_rfl) ?_
  simp only [Act.put, List.setIfInBounds_toArray, List.set_cons_succ, List.set_cons_zero]
  refine sB (by kernel_rfl) .neq _ _ _ _ (by rfl) (.agg (b8 h).toArray) (.agg (b8 h).toArray) (by kernel_rfl) (by kernel_rfl) (.bool false) (HNE.out x5) (by kernel_rfl) ?_
  simp only [Act.put, List.setIfInBounds_toArray, List.set_cons_succ, List.set_cons_zero]
  refine sV (.bool false) (x5) (by kernel_rfl) (by kernel_rfl) ?_
  simp only [Act.put, List.setIfInBounds_toArray, List.set_cons_succ, List.set_cons_zero]
  go_upto_region 10 with fail
  refine wp_region_lit ?_
  refine sV (.pointer (some ⟨X, 33, none⟩)) (x5) (by kernel_rfl) (by kernel_rfl) ?_
  simp only [Act.put, List.setIfInBounds_toArray, List.set_cons_succ, List.set_cons_zero]
  refine sP (by kernel_rfl) _ _ (by rfl) ⟨X, 33, none⟩ (by kernel_rfl) (.slice a n c) ((H5.out.drop.drop.drop.head.cell 33).trans (ccl_33 _ _ _ HL.out)) (by kernel_rfl) ?_
  simp only [Act.put, List.setIfInBounds_toArray, List.set_cons_succ, List.set_cons_zero]
  refine sV (.pointer (some ⟨Y, 33, none⟩)) (x5) (by kernel_rfl) (by kernel_rfl) ?_
  simp only [Act.put, List.setIfInBounds_toArray, List.set_cons_succ, List.set_cons_zero]
  refine sP (by kernel_rfl) _ _ (by rfl) ⟨Y, 33, none⟩ (by kernel_rfl) (.slice b m d) ((H5.out.drop.drop.head.cell 33).trans (ccl_33 _ _ _ HK.out)) (by kernel_rfl) ?_
  simp only [Act.put, List.setIfInBounds_toArray, List.set_cons_succ, List.set_cons_zero]
  refine sV (.slice (some ⟨x5.heap.size, 0, none⟩) 2 2) (x5.alloc (.cells [Value.slice a n c, Value.slice b m d].toArray TL)) (by kernel_rfl) (by kernel_rfl) ?_
  simp only [Act.put, List.setIfInBounds_toArray, List.set_cons_succ, List.set_cons_zero]
  obtain ⟨M, eM⟩ : ∃ A, x5.heap.size = A := ⟨_, rfl⟩
  have hbM := bag_box (T := TL) (cs := [Value.slice a n c, Value.slice b m d]) (X := M) H5.out eM.symm (w' := x5.alloc (.cells [Value.slice a n c, Value.slice b m d].toArray TL)) (by rw [← eM]; exact At.new _ _ _) (Below.alloc (Below.refl _ _) (Nat.le_refl _) _)
  rw [eM]
  clear eM H5
  generalize World.alloc x5 _ = x6 at *
  have H6 := WirS.hide hbM
  clear hbM
  refine sC (R := fun w' => Below x6.heap.size x6 w') (by kernel_rfl) (by kernel_rfl) (HMG.out x6 M H6.out.low H6.out.head) ?_
  rintro x7 hb
  simp only [Act.put, List.setIfInBounds_toArray, List.set_cons_succ, List.set_cons_zero]
  have H7 := WirS.hide ((H6.out.more hb).drop)
  clear hb H6
  refine sV (.tuple #[.slice none 0 0, .int .i64 8]) (x7) (by kernel_rfl) (by kernel_rfl) ?_
  simp only [Act.put, List.setIfInBounds_toArray, List.set_cons_succ, List.set_cons_zero]
  refine sV (.slice none 0 0) (x7) (by kernel_rfl) (by kernel_rfl) ?_
  simp only [Act.put, List.setIfInBounds_toArray, List.set_cons_succ, List.set_cons_zero]
  refine sV (.int .i64 8) (x7) (by kernel_rfl) (by kernel_rfl) ?_
  simp only [Act.put, List.setIfInBounds_toArray, List.set_cons_succ, List.set_cons_zero]
  go_upto_region 12 with fail
  refine wp_region_lit ?_
  refine sV (.agg zcm.toArray) (x7) (by kernel_rfl) (by kernel_rfl) ?_
  simp only [Act.put, List.setIfInBounds_toArray, List.set_cons_succ, List.set_cons_zero]
  refine sV (.int .i64 8) (x7) (by kernel_rfl) (by kernel_rfl) ?_
  simp only [Act.put, List.setIfInBounds_toArray, List.set_cons_succ, List.set_cons_zero]
  have HS := WirS.hide H7.out.drop
  clear H7
  refine stepStore (by rfl) _ _ _ (by rfl) Z zcm (by kernel_rfl) (by kernel_rfl) HS.out.head 34 (by kernel_rfl) (by rfl) (by rfl) (one_ccl _ _ _ _ _) ?_
  simp only [Act.put]
  have HF := WirS.hide (bag_row HS.out zcm)
  clear HS
  generalize World.setRow x7 Z _ = xf at *
  go_wp2_with fail
  refine bodyPost_ret (retRow2 HF.out.head Try.results171 _ (by rfl) (.int .i64 8) (by rfl) _ 34 UC rfl (by kernel_rfl) (by rfl)) rfl ?_
  exact cp_none rfl HF.out.low
set_option maxRecDepth 20000 in
set_option maxHeartbeats 16000000 in
theorem join_f (w : World) (ht : Int) (h : List Int) (a b : Option Addr) (n c m d : Nat) (vs us : List Vt) (hl : h.length = 32) (hv : VtIn w a n c vs) (hw : VtIn w b m d us) (hn : n ≤ 70) (hm : m ≤ 70) (hc : chk ht vs = 0) (hc2 : chk ht us = 0) (r : List Vt) (hm0 : mg vs us = some r) : Calls Try.prog 171 #[.agg (ccl ht h (.slice a n c)).toArray, .agg (ccl ht h (.slice b m d)).toArray] w (CP w 0 ht h r) := by
  have HL := WirS.hide hl
  have HK := WirS.hide hl
  have HC1 := WirS.hide (fun U (hU : Below w.heap.size w U) => check_any U ht h a n c vs hl (hv.below hU))
  have HC2 := WirS.hide (fun U (hU : Below w.heap.size w U) => check_any U ht h b m d us hl (hw.below hU))
  have hbX := bag_box (w0 := w) (T := TC) (cs := (ccl ht h (.slice a n c))) (X := w.heap.size) (Bag.nil (Below.refl _ _)) rfl (w' := w.alloc (.cells (ccl ht h (.slice a n c)).toArray TC)) (At.new _ _ _) (Below.alloc (Below.refl _ _) (Nat.le_refl _) _)
  have HMG := WirS.hide (fun (U : World) (B : Nat) (hU : Below w.heap.size w U) (hB : At U B TL [.slice a n c, .slice b m d]) => merge_any U B a b n c m d vs us hB (hv.below hU) (hw.below hU) ((chk_up ht vs).1 hc).2.2 ((chk_up ht us).1 hc2).2.2 hn hm)
  have HNE := WirS.hide (fun W => show (binOp .neq 34 (.agg (b8 h).toArray) (.agg (b8 h).toArray)).run Try.prog W = .ok (.bool false) W from by rw [neHg h h hl hl W]; simp)
  rw [hc] at HC1
  rw [hc2] at HC2
  rw [hm0] at HMG
  clear hl hv hw hc hc2 hm0
  go_enter Try.func171, Try.ntmps171
  go_upto_region 0 with fail
  refine wp_region_lit ?_
  refine sV (.pointer (some ⟨w.heap.size, 0, none⟩)) (w.alloc (.cells (ccl ht h (.slice a n c)).toArray TC)) (by kernel_rfl) (by kernel_rfl) ?_
  simp only [Act.put, List.setIfInBounds_toArray, List.set_cons_succ, List.set_cons_zero]
  obtain ⟨X, eX⟩ : ∃ A, w.heap.size = A := ⟨_, rfl⟩
  rw [eX] at hbX ⊢
  clear eX
  generalize World.alloc w _ = x0 at *
  refine sV (.pointer (some ⟨x0.heap.size, 0, none⟩)) (x0.alloc (.cells (ccl ht h (.slice b m d)).toArray TC)) (by kernel_rfl) (by kernel_rfl) ?_
  simp only [Act.put, List.setIfInBounds_toArray, List.set_cons_succ, List.set_cons_zero]
  obtain ⟨Y, eY⟩ : ∃ A, x0.heap.size = A := ⟨_, rfl⟩
  have hbY := bag_box (T := TC) (cs := (ccl ht h (.slice b m d))) (X := Y) hbX eY.symm (w' := x0.alloc (.cells (ccl ht h (.slice b m d)).toArray TC)) (by rw [← eY]; exact At.new _ _ _) (Below.alloc (Below.refl _ _) (Nat.le_refl _) _)
  rw [eY]
  clear eY hbX
  generalize World.alloc x0 _ = x1 at *
  refine sV (.pointer (some ⟨x1.heap.size, 0, none⟩)) (x1.alloc (.cells zcm.toArray TC)) (by kernel_rfl) (by kernel_rfl) ?_
  simp only [Act.put, List.setIfInBounds_toArray, List.set_cons_succ, List.set_cons_zero]
  obtain ⟨Z, eZ⟩ : ∃ A, x1.heap.size = A := ⟨_, rfl⟩
  have hbZ := bag_box (T := TC) (cs := zcm) (X := Z) hbY eZ.symm (w' := x1.alloc (.cells zcm.toArray TC)) (by rw [← eZ]; exact At.new _ _ _) (Below.alloc (Below.refl _ _) (Nat.le_refl _) _)
  rw [eZ]
  clear eZ hbY
  generalize World.alloc x1 _ = x2 at *
  have H2 := WirS.hide hbZ
  clear hbZ
  go_upto_region 1 with fail
  refine wp_region_lit ?_
  refine sL (by kernel_rfl) _ _ (by rfl) _ (by kernel_rfl) H2.out.drop.drop.head _ _ UC rfl (by kernel_rfl) (by rw [ccl_len _ _ _ HL.out]) ?_
  simp only [Act.put, List.setIfInBounds_toArray, List.set_cons_succ, List.set_cons_zero]
  refine sL (by kernel_rfl) _ _ (by rfl) _ (by kernel_rfl) H2.out.drop.head _ _ UC rfl (by kernel_rfl) (by rw [ccl_len _ _ _ HK.out]) ?_
  simp only [Act.put, List.setIfInBounds_toArray, List.set_cons_succ, List.set_cons_zero]
  refine sV (.slice (some ⟨x2.heap.size, 0, none⟩) 2 2) (x2.alloc (.cells ((ccl ht h (.slice a n c)) ++ (ccl ht h (.slice b m d))).toArray TC)) (by kernel_rfl) (build_two (x := .tmp 11) (y := .tmp 12) _ _ h h _ _ _ _ _ _ HL.out HK.out (by kernel_rfl) (by kernel_rfl) (by kernel_rfl) x2) ?_
  simp only [Act.put, List.setIfInBounds_toArray, List.set_cons_succ, List.set_cons_zero]
  obtain ⟨L, eL⟩ : ∃ A, x2.heap.size = A := ⟨_, rfl⟩
  have hbL := bag_box (T := TC) (cs := ((ccl ht h (.slice a n c)) ++ (ccl ht h (.slice b m d)))) (X := L) H2.out eL.symm (w' := x2.alloc (.cells ((ccl ht h (.slice a n c)) ++ (ccl ht h (.slice b m d))).toArray TC)) (by rw [← eL]; exact At.new _ _ _) (Below.alloc (Below.refl _ _) (Nat.le_refl _) _)
  rw [eL]
  clear eL H2
  generalize World.alloc x2 _ = x3 at *
  have H3 := WirS.hide hbL
  clear hbL
  refine sV (.int .i64 2) (x3) (by kernel_rfl) (by kernel_rfl) ?_
  simp only [Act.put, List.setIfInBounds_toArray, List.set_cons_succ, List.set_cons_zero]
  refine sV (.int .i64 0) (x3) (by kernel_rfl) (by kernel_rfl) ?_
  simp only [Act.put, List.setIfInBounds_toArray, List.set_cons_succ, List.set_cons_zero]
  go_wp2_with fail
  refine wp_loop_rounds 3 ?_
  rw [rounds_succ]
  go_upto_region 3 with fail
  refine wp_region_lit ?_
  refine sV (.pointer (some ⟨L, 0, none⟩)) (x3) (by kernel_rfl) (by kernel_rfl) ?_
  simp only [Act.put, List.setIfInBounds_toArray, List.set_cons_succ, List.set_cons_zero]
  refine wpList_load_mid (by rfl) _ _ (by rfl) L 0 (by kernel_rfl) (ccl ht h (.slice a n c)) _ (range_fst H3.out.head) UC (by rfl) (by rw [ccl_len _ _ _ HL.out]; kernel_rfl) ?_
  simp only [Act.put, List.setIfInBounds_toArray, List.set_cons_succ, List.set_cons_zero]
  refine sV (.pointer (some ⟨x3.heap.size, 0, none⟩)) (x3.alloc (.cells zcm.toArray TC)) (by kernel_rfl) (by kernel_rfl) ?_
  simp only [Act.put, List.setIfInBounds_toArray, List.set_cons_succ, List.set_cons_zero]
  obtain ⟨T0, eT0⟩ : ∃ A, x3.heap.size = A := ⟨_, rfl⟩
  have hbT := bag_box (T := TC) (cs := zcm) (X := T0) H3.out eT0.symm (w' := x3.alloc (.cells zcm.toArray TC)) (by rw [← eT0]; exact At.new _ _ _) (Below.alloc (Below.refl _ _) (Nat.le_refl _) _)
  rw [eT0]
  clear eT0 H3
  generalize World.alloc x3 _ = x3a at *
  refine stepStore (by rfl) _ _ _ (by rfl) T0 (ccl ht h (.slice a n c)) (by kernel_rfl) (by kernel_rfl) hbT.head 34 (by kernel_rfl) (by rfl) (ccl_len _ _ _ HL.out) (one_ccl _ _ _ _ _) ?_
  simp only [Act.put]
  have HT0 := WirS.hide (bag_row hbT (ccl ht h (.slice a n c)))
  clear hbT
  generalize World.setRow x3a T0 _ = x3b at *
  go_upto_region 4 with fail
  refine wp_region_lit ?_
  refine sL (by kernel_rfl) _ _ (by rfl) _ (by kernel_rfl) HT0.out.head _ _ UC rfl (by kernel_rfl) (by rw [ccl_len _ _ _ HL.out]) ?_
  simp only [Act.put, List.setIfInBounds_toArray, List.set_cons_succ, List.set_cons_zero]
  refine sC (R := fun w' => Below x3b.heap.size x3b w') (by kernel_rfl) (by kernel_rfl) (HC1.out x3b HT0.out.low) ?_
  rintro x4 hb
  simp only [Act.put, List.setIfInBounds_toArray, List.set_cons_succ, List.set_cons_zero]
  have H4 := WirS.hide (HT0.out.more hb).drop
  clear hb HT0
  go_wp2_with fail
  rw [rounds_succ]
  go_upto_region 3 with fail
  refine wp_region_lit ?_
  refine sV (.pointer (some ⟨L, 34, none⟩)) (x4) (by kernel_rfl) (by kernel_rfl) ?_
  simp only [Act.put, List.setIfInBounds_toArray, List.set_cons_succ, List.set_cons_zero]
  refine wpList_load_mid (by rfl) _ _ (by rfl) L 34 (by kernel_rfl) (ccl ht h (.slice b m d)) _ (range_snd 34 (ccl_len _ _ _ HL.out) H4.out.head) UC (by rfl) (by rw [ccl_len _ _ _ HK.out]; kernel_rfl) ?_
  simp only [Act.put, List.setIfInBounds_toArray, List.set_cons_succ, List.set_cons_zero]
  refine sV (.pointer (some ⟨x4.heap.size, 0, none⟩)) (x4.alloc (.cells zcm.toArray TC)) (by kernel_rfl) (by kernel_rfl) ?_
  simp only [Act.put, List.setIfInBounds_toArray, List.set_cons_succ, List.set_cons_zero]
  obtain ⟨T1, eT1⟩ : ∃ A, x4.heap.size = A := ⟨_, rfl⟩
  have hbT := bag_box (T := TC) (cs := zcm) (X := T1) H4.out eT1.symm (w' := x4.alloc (.cells zcm.toArray TC)) (by rw [← eT1]; exact At.new _ _ _) (Below.alloc (Below.refl _ _) (Nat.le_refl _) _)
  rw [eT1]
  clear eT1 H4
  generalize World.alloc x4 _ = x4a at *
  refine stepStore (by rfl) _ _ _ (by rfl) T1 (ccl ht h (.slice b m d)) (by kernel_rfl) (by kernel_rfl) hbT.head 34 (by kernel_rfl) (by rfl) (ccl_len _ _ _ HK.out) (one_ccl _ _ _ _ _) ?_
  simp only [Act.put]
  have HT1 := WirS.hide (bag_row hbT (ccl ht h (.slice b m d)))
  clear hbT
  generalize World.setRow x4a T1 _ = x4b at *
  go_upto_region 4 with fail
  refine wp_region_lit ?_
  refine sL (by kernel_rfl) _ _ (by rfl) _ (by kernel_rfl) HT1.out.head _ _ UC rfl (by kernel_rfl) (by rw [ccl_len _ _ _ HK.out]) ?_
  simp only [Act.put, List.setIfInBounds_toArray, List.set_cons_succ, List.set_cons_zero]
  refine sC (R := fun w' => Below x4b.heap.size x4b w') (by kernel_rfl) (by kernel_rfl) (HC2.out x4b HT1.out.low) ?_
  rintro x5 hb
  simp only [Act.put, List.setIfInBounds_toArray, List.set_cons_succ, List.set_cons_zero]
  have H5 := WirS.hide (HT1.out.more hb).drop
  clear hb HT1
  go_wp2_with fail
  rw [rounds_succ]
  go_upto_region 8 with fail
  refine wp_region_lit ?_
  refine sV (.pointer (some ⟨X, 0, none⟩)) (x5) (by kernel_rfl) (by kernel_rfl) ?_
  simp only [Act.put, List.setIfInBounds_toArray, List.set_cons_succ, List.set_cons_zero]
  refine sP (by kernel_rfl) _ _ (by rfl) ⟨X, 0, none⟩ (by kernel_rfl) (.int .i64 ht) (H5.out.drop.drop.drop.head.cell 0) (by kernel_rfl) ?_
  simp only [Act.put, List.setIfInBounds_toArray, List.set_cons_succ, List.set_cons_zero]
  refine sV (.pointer (some ⟨Y, 0, none⟩)) (x5) (by kernel_rfl) (by kernel_rfl) ?_
  simp only [Act.put, List.setIfInBounds_toArray, List.set_cons_succ, List.set_cons_zero]
  refine sP (by kernel_rfl) _ _ (by rfl) ⟨Y, 0, none⟩ (by kernel_rfl) (.int .i64 ht) (H5.out.drop.drop.head.cell 0) (by kernel_rfl) ?_
  simp only [Act.put, List.setIfInBounds_toArray, List.set_cons_succ, List.set_cons_zero]
  refine sB (by kernel_rfl) .neq _ _ _ _ (by rfl) (.int .i64 ht) (.int .i64 ht) (by kernel_rfl) (by kernel_rfl) (.bool false) (neI0 ht x5) (by kernel_rfl) ?_
  simp only [Act.put, List.setIfInBounds_toArray, List.set_cons_succ, List.set_cons_zero]
  refine sV (.bool false) (x5) (by kernel_rfl) (by kernel_rfl) ?_
  simp only [Act.put, List.setIfInBounds_toArray, List.set_cons_succ, List.set_cons_zero]
  refine sV (.pointer (some ⟨X, 1, none⟩)) (x5) (by kernel_rfl) (by kernel_rfl) ?_
  simp only [Act.put, List.setIfInBounds_toArray, List.set_cons_succ, List.set_cons_zero]
  refine wpList_load_mid' (by kernel_rfl) _ _ (by rfl) X 1 (by kernel_rfl) (b8 h) _ (range_hash H5.out.drop.drop.drop.head) Try.underlying34 (by rfl) (by rw [b8_len, HL.out]; kernel_rfl) ?_
  simp only [Act.put, List.setIfInBounds_toArray, List.set_cons_succ, List.set_cons_zero]
  refine sV (.pointer (some ⟨Y, 1, none⟩)) (x5) (by kernel_rfl) (by kernel_rfl) ?_
  simp only [Act.put, List.setIfInBounds_toArray, List.set_cons_succ, List.set_cons_zero]
  refine wpList_load_mid' (by kernel_rfl) _ _ (by rfl) Y 1 (by kernel_rfl) (b8 h) _ (range_hash H5.out.drop.drop.head) Try.underlying34 (by rfl) (by rw [b8_len, HK.out]; kernel_rfl) ?_
  simp only [Act.put, List.setIfInBounds_toArray, List.set_cons_succ, List.set_cons_zero]
  refine sB (by kernel_rfl) .neq _ _ _ _ (by rfl) (.agg (b8 h).toArray) (.agg (b8 h).toArray) (by kernel_rfl) (by kernel_rfl) (.bool false) (HNE.out x5) (by kernel_rfl) ?_
  simp only [Act.put, List.setIfInBounds_toArray, List.set_cons_succ, List.set_cons_zero]
  refine sV (.bool false) (x5) (by kernel_rfl) (by kernel_rfl) ?_
  simp only [Act.put, List.setIfInBounds_toArray, List.set_cons_succ, List.set_cons_zero]
  go_upto_region 10 with fail
  refine wp_region_lit ?_
  refine sV (.pointer (some ⟨X, 33, none⟩)) (x5) (by kernel_rfl) (by kernel_rfl) ?_
  simp only [Act.put, List.setIfInBounds_toArray, List.set_cons_succ, List.set_cons_zero]
  refine sP (by kernel_rfl) _ _ (by rfl) ⟨X, 33, none⟩ (by kernel_rfl) (.slice a n c) ((H5.out.drop.drop.drop.head.cell 33).trans (ccl_33 _ _ _ HL.out)) (by kernel_rfl) ?_
  simp only [Act.put, List.setIfInBounds_toArray, List.set_cons_succ, List.set_cons_zero]
  refine sV (.pointer (some ⟨Y, 33, none⟩)) (x5) (by kernel_rfl) (by kernel_rfl) ?_
  simp only [Act.put, List.setIfInBounds_toArray, List.set_cons_succ, List.set_cons_zero]
  refine sP (by kernel_rfl) _ _ (by rfl) ⟨Y, 33, none⟩ (by kernel_rfl) (.slice b m d) ((H5.out.drop.drop.head.cell 33).trans (ccl_33 _ _ _ HK.out)) (by kernel_rfl) ?_
  simp only [Act.put, List.setIfInBounds_toArray, List.set_cons_succ, List.set_cons_zero]
  refine sV (.slice (some ⟨x5.heap.size, 0, none⟩) 2 2) (x5.alloc (.cells [Value.slice a n c, Value.slice b m d].toArray TL)) (by kernel_rfl) (by kernel_rfl) ?_
  simp only [Act.put, List.setIfInBounds_toArray, List.set_cons_succ, List.set_cons_zero]
  obtain ⟨M, eM⟩ : ∃ A, x5.heap.size = A := ⟨_, rfl⟩
  have hbM := bag_box (T := TL) (cs := [Value.slice a n c, Value.slice b m d]) (X := M) H5.out eM.symm (w' := x5.alloc (.cells [Value.slice a n c, Value.slice b m d].toArray TL)) (by rw [← eM]; exact At.new _ _ _) (Below.alloc (Below.refl _ _) (Nat.le_refl _) _)
  rw [eM]
  clear eM H5
  generalize World.alloc x5 _ = x6 at *
  have H6 := WirS.hide hbM
  clear hbM
  refine sCx (by kernel_rfl) (by kernel_rfl) (HMG.out x6 M H6.out.low H6.out.head) ?_
  rintro e x7 ⟨ra, rn, rc, rfl, hro, hrn, hb⟩
  refine ⟨_, rfl, ?_⟩
  simp only [Act.put, List.setIfInBounds_toArray, List.set_cons_succ, List.set_cons_zero]
  have H7 := WirS.hide (bag_ownt (H6.out) hro hrn hb)
  clear hb H6 hro hrn
  refine sV (.tuple #[.slice ra rn rc, .int .i64 0]) (x7) (by kernel_rfl) (by kernel_rfl) ?_
  simp only [Act.put, List.setIfInBounds_toArray, List.set_cons_succ, List.set_cons_zero]
  refine sV (.slice ra rn rc) (x7) (by kernel_rfl) (by kernel_rfl) ?_
  simp only [Act.put, List.setIfInBounds_toArray, List.set_cons_succ, List.set_cons_zero]
  refine sV (.int .i64 0) (x7) (by kernel_rfl) (by kernel_rfl) ?_
  simp only [Act.put, List.setIfInBounds_toArray, List.set_cons_succ, List.set_cons_zero]
  go_upto_region 13 with fail
  refine wp_region_lit ?_
  refine sV (.pointer (some ⟨X, 0, none⟩)) (x7) (by kernel_rfl) (by kernel_rfl) ?_
  simp only [Act.put, List.setIfInBounds_toArray, List.set_cons_succ, List.set_cons_zero]
  refine sP (by kernel_rfl) _ _ (by rfl) ⟨X, 0, none⟩ (by kernel_rfl) (.int .i64 ht) (H7.out.drop.drop.drop.drop.drop.head.cell 0) (by kernel_rfl) ?_
  simp only [Act.put, List.setIfInBounds_toArray, List.set_cons_succ, List.set_cons_zero]
  refine sV (.pointer (some ⟨X, 1, none⟩)) (x7) (by kernel_rfl) (by kernel_rfl) ?_
  simp only [Act.put, List.setIfInBounds_toArray, List.set_cons_succ, List.set_cons_zero]
  refine wpList_load_mid (by rfl) _ _ (by rfl) X 1 (by kernel_rfl) (b8 h) _ (range_hash H7.out.drop.drop.drop.drop.drop.head) Try.underlying34 (by rfl) (by rw [b8_len, HL.out]; kernel_rfl) ?_
  simp only [Act.put, List.setIfInBounds_toArray, List.set_cons_succ, List.set_cons_zero]
  refine sV (.slice ra rn rc) (x7) (by kernel_rfl) (by kernel_rfl) ?_
  simp only [Act.put, List.setIfInBounds_toArray, List.set_cons_succ, List.set_cons_zero]
  refine sV (.agg (ccl ht h (.slice ra rn rc)).toArray) x7 (by kernel_rfl) (build_ccl (x := .tmp 53) (y := .tmp 55) (z := .tmp 56) ht h ra rn rc HL.out (by kernel_rfl) (by kernel_rfl) (by kernel_rfl) (by kernel_rfl) x7) ?_
  simp only [Act.put, List.setIfInBounds_toArray, List.set_cons_succ, List.set_cons_zero]
  have HS := WirS.hide (H7.out.perm (show [ownt (.slice ra rn rc) r, box TL M [Value.slice a n c, Value.slice b m d], box TC L ((ccl ht h (.slice a n c)) ++ (ccl ht h (.slice b m d))), box TC Z zcm, box TC Y (ccl ht h (.slice b m d)), box TC X (ccl ht h (.slice a n c))].Perm [box TC Z zcm, ownt (.slice ra rn rc) r, box TL M [Value.slice a n c, Value.slice b m d], box TC L ((ccl ht h (.slice a n c)) ++ (ccl ht h (.slice b m d))), box TC Y (ccl ht h (.slice b m d)), box TC X (ccl ht h (.slice a n c))] from List.perm_append_comm (l₁ := [ownt (.slice ra rn rc) r, box TL M [Value.slice a n c, Value.slice b m d], box TC L ((ccl ht h (.slice a n c)) ++ (ccl ht h (.slice b m d)))]) (l₂ := [box TC Z zcm]) |>.append_right _))
  clear H7
  refine stepStore (by rfl) _ _ _ (by rfl) Z (ccl ht h (.slice ra rn rc)) (by kernel_rfl) (by kernel_rfl) HS.out.head 34 (by kernel_rfl) (by rfl) (ccl_len _ _ _ HL.out) (one_ccl _ _ _ _ _) ?_
  simp only [Act.put]
  have HF := WirS.hide (bag_row HS.out (ccl ht h (.slice ra rn rc)))
  clear HS
  generalize World.setRow x7 Z _ = xf at *
  go_wp2_with fail
  refine bodyPost_ret (retRow2 HF.out.head Try.results171 _ (by rfl) (.int .i64 0) (by rfl) _ 34 UC rfl (by kernel_rfl) (ccl_len _ _ _ HL.out)) rfl ?_
  exact ⟨ra, rn, rc, rfl, HF.out.drop.head, fun q hq => (HF.out.all (ownt (.slice ra rn rc) r) (by simp)).2 q hq, HF.out.low⟩
theorem join_any (w : World) (ht hu : Int) (h k : List Int) (a b : Option Addr) (n c m d : Nat) (vs us : List Vt) (hl : h.length = 32) (kl : k.length = 32) (hv : VtIn w a n c vs) (hw : VtIn w b m d us) (hn : n ≤ 70) (hm : m ≤ 70) : Calls Try.prog 171 #[.agg (ccl ht h (.slice a n c)).toArray, .agg (ccl hu k (.slice b m d)).toArray] w (JP w ht h (joinO ht h vs hu k us)) := by
  unfold joinO
  by_cases h1 : chk ht vs = 0
  · rw [if_neg (by simpa using h1)]
    by_cases h2 : chk hu us = 0
    · rw [if_neg (by simpa using h2)]
      by_cases h3 : ht = hu
      · subst h3
        by_cases h4 : h = k
        · subst h4
          rw [if_neg (by simp)]
          cases h5 : mg vs us with
          | none => exact join_e w ht h a b n c m d vs us hl hv hw hn hm h1 h2 h5
          | some r => exact join_f w ht h a b n c m d vs us hl hv hw hn hm h1 h2 r h5
        · rw [if_pos (.inr h4)]
          exact join_d w ht h k a b n c m d vs us hl kl hv hw hn hm h1 h2 h4
      · rw [if_pos (.inl h3)]
        exact join_c w ht hu h k a b n c m d vs us hl kl hv hw hn hm h1 h2 h3
    · rw [if_pos h2]
      exact join_b w ht hu h k a b n c m d vs us hl kl hv hw hn hm h1 h2
  · rw [if_pos h1]
    exact join_a w ht hu h k a b n c m d vs us hl kl hv hw hn hm h1
end CmL
end Go.Proofs.Ythcemghamdmjmaa

