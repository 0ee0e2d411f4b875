/-
  commit.merge.
-/
import Derived.Test.YtplinpbmncccoaaCmJ
import Derived.Laws.StructEq
import Derived.WalkMore
namespace Go.Proofs.Ytplinpbmncccoaa
namespace CmK
open Go.RowKit
open BlkM WirM WirS CmA CmP CmB CmE CmI CmJ
open WirAB (sCx)

theorem eqd_vote (a b c d : Int) (W : World) (k : Nat) : (Op.equalIn (k + 2) TV (.agg #[.int .i64 a, .int .u64 b]) (.agg #[.int .i64 c, .int .u64 d])).run Try.prog W = .ok (a == c && b == d) W := by
  have p0 : ∀ (x y : Int) (V : World), (part 3 #[.int .i64 x, .int .u64 y] 0).run Try.prog V = .ok (.int .i64 x) V := fun x y V => by kernel_rfl
  have p1 : ∀ (x y : Int) (V : World), (part 37 #[.int .i64 x, .int .u64 y] 1).run Try.prog V = .ok (.int .u64 y) V := fun x y V => by kernel_rfl
  simp [Op.equalIn, run_underlying Try.underlying113, run_underlying Try.underlying3, run_underlying Try.underlying37, p0, p1]
  by_cases h1 : a = c <;> by_cases h2 : b = d <;> simp [h1, h2]
theorem eq_vote (a b c d : Int) (W : World) : (binOp .eql TV (.agg #[.int .i64 a, .int .u64 b]) (.agg #[.int .i64 c, .int .u64 d])).run Try.prog W = .ok (.bool (a == c && b == d)) W := by
  simp only [binOp]
  simp [Op.equal, Op.maxDepth, eqd_vote a b c d W 9998]
theorem ne_vote (a b c d : Int) (W : World) : (binOp .neq TV (.agg #[.int .i64 a, .int .u64 b]) (.agg #[.int .i64 c, .int .u64 d])).run Try.prog W = .ok (.bool (!(a == c && b == d))) W := by
  simp only [binOp]
  simp [Op.equal, Op.maxDepth, eqd_vote a b c d W 9998]
/-- The two lists, as they lie. -/
def Two (w : World) (B : Nat) (s1 s2 : Value) : Prop := At w B TL [s1, s2]
def MidM (w : World) (vs us : List Vt) (s er i : Value) (U : World) : Prop :=
  er = .int .i64 0 ∧ ∃ (j : Nat) (A : List Vt) (sa : Option Addr) (sn sc : Nat), j ≤ 2 ∧ i = .int .i64 (j : Int) ∧ s = .slice sa sn sc ∧ OwnT U (.slice sa sn sc) A ∧ Up A ∧ NewB w (.slice sa sn sc) ∧ A.length ≤ 80 * j ∧ ((j = 0 → A = []) ∧ (j = 1 → A = vs) ∧ (j = 2 → mg vs us = some A)) ∧ Below w.heap.size w U
def MidN (w : World) (A0 cs : List Vt) (s er i : Value) (U : World) : Prop :=
  er = .int .i64 0 ∧ ∃ (k : Nat) (A : List Vt) (sa : Option Addr) (sn sc : Nat), k ≤ cs.length ∧ i = .int .i64 (k : Int) ∧ s = .slice sa sn sc ∧ OwnT U (.slice sa sn sc) A ∧ Up A ∧ NewB w (.slice sa sn sc) ∧ A.length ≤ A0.length + k ∧ mg A0 cs = mg A (cs.drop k) ∧ Below w.heap.size w U
/-- What merge tells. -/
def MP (w : World) (o : Option (List Vt)) (e : Ending) (w' : World) : Prop :=
  match o with
  | some r => ∃ a n c, e = .returned (.tuple #[.slice a n c, .int .i64 0]) ∧ OwnT w' (.slice a n c) r ∧ NewB w (.slice a n c) ∧ Below w.heap.size w w'
  | none => e = .returned (.tuple #[.slice none 0 0, .int .i64 8]) ∧ Below w.heap.size w w'
theorem mg_step_none {A l : List Vt} {x : Vt} (h : ofV x.at' A = none) : mg A (x :: l) = mg (insV A x) l := by rw [mg, h]
theorem mg_step_same {A l : List Vt} {x : Vt} {s : Int} (h : ofV x.at' A = some s) (e : s = x.sg) : mg A (x :: l) = mg A l := by rw [mg, h]; simp only [if_pos e]
theorem mg_step_bad {A l : List Vt} {x : Vt} {s : Int} (h : ofV x.at' A = some s) (e : s ≠ x.sg) : mg A (x :: l) = none := by rw [mg, h]; simp only [if_neg e]
/-- What the place found holds. -/
theorem at_found {A : List Vt} (hu : Up A) {k s : Int} (h : ofV k A = some s) : A[cut k A]? = some ⟨k, s⟩ := by
  have e := at_cut hu k
  rw [h] at e
  by_cases c : (A[cut k A]?.map (·.at')) = some k
  · rw [if_pos c] at e
    cases hq : A[cut k A]? with
    | none => rw [hq] at e; cases e
    | some y =>
      rw [hq] at c e
      simp only [Option.map_some, Option.some.injEq] at c e
      rw [Vt.eq_of (x := y) (y := ⟨k, s⟩) c e.symm]
  · rw [if_neg c] at e
    cases e
set_option maxRecDepth 20000 in
set_option maxHeartbeats 16000000 in
theorem merge_any (w : World) (B : Nat) (a b : Option Addr) (n c m d : Nat) (vs us : List Vt) (hB : At w B TL [.slice a n c, .slice b m d]) (hv : VtIn w a n c vs) (hu : VtIn w b m d us) (uv : Up vs) (uu : Up us) (hn : n ≤ 70) (hm : m ≤ 70) :
    Calls Try.prog 172 #[.slice (some ⟨B, 0, none⟩) 2 2] w (MP w (mg vs us)) := by
  have HB := WirS.hide hB
  have HV := WirS.hide hv
  have HU := WirS.hide hu
  have HUV := WirS.hide uv
  have HUU := WirS.hide uu
  have HLV := WirS.hide hv.len
  have HLU := WirS.hide hu.len
  have hBl := hB.lt
  have HST := WirS.hide (show MidM w vs us (.slice none 0 0) (.int .i64 0) (.int .i64 0) w from ⟨rfl, 0, [], none, 0, 0, by omega, rfl, rfl, OwnT.nil w, Up.nil, (fun k hk => by simp [Value.ownBlock] at hk), by simp, ⟨fun _ => rfl, fun h => absurd h (by decide), fun h => absurd h (by decide)⟩, Below.refl _ _⟩)
  clear hB hv hu uv uu
  go_enter Try.func172, Try.ntmps172
  go_wp2_with fail
  go_step3
  go_wp2_with fail
  go_step3
  go_wp2_with fail
  go_loopw [4, 5, 14] (fun s er i wr => MidM w vs us s er i wr) (fun _ _ i _ => 2 - (intOf i).toNat)
  case atStart => exact HST.out
  case round =>
    clear HST
    obtain ⟨rfl, j, A0, s0, n0, c0, hj, rfl, rfl, hO, hUp, hNB, hlen, hcs, hBw⟩ := hrel
    have HO := WirS.hide hO
    have HUP := WirS.hide hUp
    have HNB := WirS.hide hNB
    have HCS := WirS.hide hcs
    have HBW := WirS.hide hBw
    clear hO hUp hNB hcs
    by_cases hlt : j < 2
    · obtain rfl | rfl : j = 0 ∨ j = 1 := by omega
      · have e0 : A0 = [] := HCS.out.1 rfl
        subst e0
        have kB : wr.cell? ⟨B, 0, none⟩ = some (.slice a n c) := (hBw.cell (p := ⟨B, 0, none⟩) hBl).trans (HB.out.cell 0)
        clear hBw hj hlt
        have HSN := WirS.hide (show MidN w [] vs (.slice s0 n0 c0) (.int .i64 0) (.int .i64 0) wr from ⟨rfl, 0, [], s0, n0, c0, Nat.zero_le _, rfl, rfl, HO.out, HUP.out, HNB.out, by omega, rfl, HBW.out⟩)
        have hA0 : ([] : List Vt).length ≤ 0 := by omega
        clear hlen HO HUP HNB
        go_wp2_with fail
        go_loopw [4, 5, 20] (fun s er i wr => MidN w [] vs s er i wr) (fun _ _ i _ => n - (intOf i).toNat)
        case atStart => exact HSN.out
        case round =>
          clear HSN
          obtain ⟨rfl, k, A, sa, sn, sc, hk, rfl, rfl, hO, hUp, hNB, hlen, hE, hBw⟩ := hrel
          have HO := WirS.hide hO
          have HUP := WirS.hide hUp
          have HNB := WirS.hide hNB
          have HBW := WirS.hide hBw
          rw [HLV.out] at hk
          by_cases hlt : k < n
          · obtain ⟨x, Bx, ox, hx, hmem, rfl, hBl2, hr⟩ := (HV.out.below hBw).cell hlt
            have r0 : wr.cell? ⟨Bx, ox + k * 2, none⟩ = some (.int .i64 x.at') := hr 0 _ rfl
            have r1 : wr.cell? ⟨Bx, ox + k * 2 + 1, none⟩ = some (.int .u64 x.sg) := hr 1 _ rfl
            have hkl : (k : Int) < (n : Int) := by omega
            have hxo := HV.out.ok x hmem
            have hxp := HUV.out.rng x hmem
            have hsl : A.length = sn := by obtain ⟨va, vc, e⟩ := hO.len_of; cases e; rfl
            have hsn : sn ≤ 150 := by omega
            rw [drop_get hx] at hE
            obtain ⟨W1, e1⟩ : ∃ X, X = wr.alloc (.cells #[.int .i64 x.at', .int .u64 x.sg] TV) := ⟨_, rfl⟩
            obtain ⟨Y, eY⟩ : ∃ Y, wr.heap.size = Y := ⟨_, rfl⟩
            have hA1 : At W1 Y TV x.cells := by rw [e1, ← eY]; exact At.new wr _ _
            have h01 : Below wr.heap.size wr W1 := by rw [e1]; exact Below.alloc (Below.refl _ _) (Nat.le_refl _) _
            have HB1 := WirS.hide (hBw.trans (h01.mono hBw.size))
            have hO1 := hO.below h01
            have HYn := WirS.hide (show (Value.slice sa sn sc).ownBlock ≠ some Y from fun e => by have := hO.lt Y e; omega)
            have HFD := WirS.hide (find_any W1 sa sn sc A x.at' hO1.vin hUp (by omega))
            have HA1 := WirS.hide hA1
            have HO1 := WirS.hide hO1
            have HSL := WirS.hide hsl
            have HXO := WirS.hide hxo
            have HXP := WirS.hide hxp
            have HLE := WirS.hide hlen
            have HWY := WirS.hide (show w.heap.size ≤ Y by rw [← eY]; exact hBw.size)
            have E1 := WirS.hide e1
            have hcl := cut_le x.at' A
            rw [hsl] at hcl
            have HCL := WirS.hide hcl
            clear hr hx hmem hxo hxp hA1 h01 hO1 hsl e1 hO hUp hNB hBw hlen hcl
            cases ho : ofV x.at' A with
            | none =>
              rw [ho] at HFD
              have hE2 : mg [] vs = mg (insV A x) (vs.drop (k + 1)) := by rw [hE, mg_step_none ho]
              have HE := WirS.hide hE2
              have HUP2 := WirS.hide (up_insV HUP.out HXP.out ho)
              have HIL := WirS.hide (insV_len A x)
              have HINS := WirS.hide (fun (U : World) (V : Nat) (h1 : OwnT U (.slice sa sn sc) A) (h2 : At U V TV x.cells) (h3 : (Value.slice sa sn sc).ownBlock ≠ some V) => insert_any U sa sn sc (cut x.at' A) V A x h1 h2 HXO.out h3 HCL.out (by omega))
              rw [show ins A (cut x.at' A) x = insV A x from rfl] at HINS
              generalize (cut x.at' A : Nat) = q at *
              clear hE hE2 ho
              go_upto_region 9 with fail
              rw [show wr.alloc (.cells #[.int .i64 x.at', .int .u64 x.sg] TV) = W1 from E1.out.symm]
              clear r0 r1 eY E1
              have y0 : W1.cell? ⟨Y, 0, none⟩ = some (.int .i64 x.at') := HA1.out.cell 0
              go_upto_region 11 with (go_at_call 168; refine (HFD.out).mono ?_; rintro e u1 ⟨rfl, hb⟩; have HU1 := WirS.hide hb; clear hb)
              clear y0
              have HB2 := WirS.hide (HB1.out.trans (HU1.out.mono HB1.out.size))
              have hO2 := HO1.out.below HU1.out
              have hA2 := At.below HA1.out HU1.out HA1.out.lt
              have hal : Below u1.heap.size u1 (u1.alloc (.cells x.cells.toArray TV)) := Below.alloc (Below.refl _ _) (Nat.le_refl _) _
              obtain ⟨V, eV⟩ : ∃ V, u1.heap.size = V := ⟨_, rfl⟩
              have HC := WirS.hide (HINS.out (u1.alloc (.cells x.cells.toArray TV)) V (hO2.below hal) (by rw [← eV]; exact At.new u1 _ _) (fun e => by have := hO2.lt V e; omega))
              have HB3 := WirS.hide (HB2.out.trans (hal.mono HB2.out.size))
              have HA2 := WirS.hide hA2
              clear hO2 hA2 hal
              refine wp_region_lit ?_
              refine sV (.slice sa sn sc) (u1) (by kernel_rfl) (by kernel_rfl) ?_
              simp only [Act.put, List.setIfInBounds_toArray, List.set_cons_succ, List.set_cons_zero]
              refine sV (.int .i64 (q : Int)) (u1) (by kernel_rfl) (by kernel_rfl) ?_
              simp only [Act.put, List.setIfInBounds_toArray, List.set_cons_succ, List.set_cons_zero]
              refine sL (by kernel_rfl) _ _ (by rfl) _ (by kernel_rfl) HA2.out _ 2 Try.underlying113 rfl (by kernel_rfl) (by rfl) ?_
              simp only [Act.put, List.setIfInBounds_toArray, List.set_cons_succ, List.set_cons_zero]
              refine sV (.slice (some ⟨u1.heap.size, 0, none⟩) 1 1) (u1.alloc (.cells x.cells.toArray TV)) (by kernel_rfl) (by kernel_rfl) ?_
              simp only [Act.put, List.setIfInBounds_toArray, List.set_cons_succ, List.set_cons_zero]
              rw [eV]
              refine sCx (by kernel_rfl) (by kernel_rfl) HC.out ?_
              rintro e u3 ⟨ia, im, ic, rfl, hio, hif, hin⟩
              refine ⟨_, rfl, ?_⟩
              simp only [Act.put, List.setIfInBounds_toArray, List.set_cons_succ, List.set_cons_zero]
              have HIO := WirS.hide hio
              have HBF := WirS.hide (HB3.out.trans (hif.below (B := w.heap.size) HB3.out.size (fun q hq hx => by have := HNB.out q hx; omega)))
              have HNN := WirS.hide (show NewB w (.slice ia im ic) from fun q hq => by
                rcases hin q hq with h | h
                · exact HNB.out q h
                · exact Nat.le_trans HB3.out.size h)
              clear hio hif hin HC eV
              go_wp2_with fail
              go_roundw
              case rel => exact ⟨rfl, k + 1, insV A x, ia, im, ic, by rw [HLV.out]; omega, by go_num, rfl, HIO.out, HUP2.out, HNN.out, by have := HIL.out; have := HLE.out; omega, HE.out, HBF.out⟩
              case measure => simp [intOf]; omega
            | some sg =>
              rw [ho] at HFD
              have hfd := at_found HUP.out ho
              have hcl := HCL.out
              have hql : cut x.at' A < sn := by have := (List.getElem?_eq_some_iff.1 hfd).1; have := HSL.out; omega
              generalize hq : (cut x.at' A : Nat) = q at *
              clear hq
              have HFO := WirS.hide hfd
              have hq2 : (q : Int) < (sn : Int) := by omega
              clear hfd hcl
              by_cases es : sg = x.sg
              · have hE2 : mg [] vs = mg A (vs.drop (k + 1)) := by rw [hE, mg_step_same ho es]
                have HE := WirS.hide hE2
                clear hE hE2 ho
                go_upto_region 9 with fail
                rw [show wr.alloc (.cells #[.int .i64 x.at', .int .u64 x.sg] TV) = W1 from E1.out.symm]
                clear r0 r1 eY E1
                have y0 : W1.cell? ⟨Y, 0, none⟩ = some (.int .i64 x.at') := HA1.out.cell 0
                go_upto_region 12 with (go_at_call 168; refine (HFD.out).mono ?_; rintro e u1 ⟨rfl, hb⟩; have HU1 := WirS.hide hb; clear hb)
                clear y0
                obtain ⟨z, Bz, oz, hz, _, rfl, _, hzr⟩ := (HO1.out.below HU1.out).vin.cell hql
                rw [HFO.out] at hz
                cases hz
                have z0 : u1.cell? ⟨Bz, oz + q * 2, none⟩ = some (.int .i64 x.at') := hzr 0 _ rfl
                have z1 : u1.cell? ⟨Bz, oz + q * 2 + 1, none⟩ = some (.int .u64 sg) := hzr 1 _ rfl
                have hA2 := At.below HA1.out HU1.out HA1.out.lt
                have y0 : u1.cell? ⟨Y, 0, none⟩ = some (.int .i64 x.at') := hA2.cell 0
                have y1 : u1.cell? ⟨Y, 1, none⟩ = some (.int .u64 x.sg) := hA2.cell 1
                have hne := fun W => ne_vote x.at' sg x.at' x.sg W
                rw [show (!(x.at' == x.at' && sg == x.sg)) = false by simp [es]] at hne
                have HB2 := WirS.hide (HB1.out.trans (HU1.out.mono HB1.out.size))
                clear hzr hA2 hql es
                go_quiet (fail)
                go_wp2_with fail
                go_roundw
                case rel => exact ⟨rfl, k + 1, A, _, sn, sc, by rw [HLV.out]; omega, by go_num, rfl, by first | exact (HO1.out.below HU1.out).below (below_drewN (below_drewN (Below.refl _ _) _) _) | exact (HO1.out.below HU1.out).below (below_drewN (Below.refl _ _) _), HUP.out, HNB.out, by have := HLE.out; omega, HE.out, by first | exact below_drewN (below_drewN HB2.out _) _ | exact below_drewN HB2.out _⟩
                case measure => simp [intOf]; omega
              · have hE2 : mg [] vs = none := by rw [hE, mg_step_bad ho es]
                have HE := WirS.hide hE2
                clear hE hE2 ho
                go_upto_region 9 with fail
                rw [show wr.alloc (.cells #[.int .i64 x.at', .int .u64 x.sg] TV) = W1 from E1.out.symm]
                clear r0 r1 eY E1
                have y0 : W1.cell? ⟨Y, 0, none⟩ = some (.int .i64 x.at') := HA1.out.cell 0
                go_upto_region 12 with (go_at_call 168; refine (HFD.out).mono ?_; rintro e u1 ⟨rfl, hb⟩; have HU1 := WirS.hide hb; clear hb)
                clear y0
                obtain ⟨z, Bz, oz, hz, _, rfl, _, hzr⟩ := (HO1.out.below HU1.out).vin.cell hql
                rw [HFO.out] at hz
                cases hz
                have z0 : u1.cell? ⟨Bz, oz + q * 2, none⟩ = some (.int .i64 x.at') := hzr 0 _ rfl
                have z1 : u1.cell? ⟨Bz, oz + q * 2 + 1, none⟩ = some (.int .u64 sg) := hzr 1 _ rfl
                have hA2 := At.below HA1.out HU1.out HA1.out.lt
                have y0 : u1.cell? ⟨Y, 0, none⟩ = some (.int .i64 x.at') := hA2.cell 0
                have y1 : u1.cell? ⟨Y, 1, none⟩ = some (.int .u64 x.sg) := hA2.cell 1
                have hne := fun W => ne_vote x.at' sg x.at' x.sg W
                rw [show (!(x.at' == x.at' && sg == x.sg)) = true by simp [es]] at hne
                have HB2 := WirS.hide (HB1.out.trans (HU1.out.mono HB1.out.size))
                clear hzr hA2 hql es
                exact absurd (HE.out.symm.trans (mg_self vs HUV.out)) (by intro h; cases h)
          · obtain rfl : k = n := by omega
            rw [List.drop_eq_nil_of_le (by rw [HLV.out]; exact Nat.le_refl _), mg] at hE
            have HE := WirS.hide hE
            have HLE := WirS.hide hlen
            clear hE hO hUp hNB hBw hlen
            go_wp2_with fail
            go_roundw
            case rel => exact ⟨rfl, 1, A, sa, sn, sc, by omega, by rfl, rfl, HO.out, HUP.out, HNB.out, by have := HLE.out; omega, ⟨fun h => absurd h (by decide), fun _ => Option.some.inj (HE.out.symm.trans (mg_self vs HUV.out)), fun h => absurd h (by decide)⟩, HBW.out⟩
            case measure => simp [intOf]
      · have e0 : A0 = vs := HCS.out.2.1 rfl
        subst e0
        have kB : wr.cell? ⟨B, 1, none⟩ = some (.slice b m d) := (hBw.cell (p := ⟨B, 1, none⟩) hBl).trans (HB.out.cell 1)
        clear hBw hj hlt
        have HSN := WirS.hide (show MidN w A0 us (.slice s0 n0 c0) (.int .i64 0) (.int .i64 0) wr from ⟨rfl, 0, A0, s0, n0, c0, Nat.zero_le _, rfl, rfl, HO.out, HUP.out, HNB.out, by omega, rfl, HBW.out⟩)
        have hA0 : (A0 : List Vt).length ≤ 80 := by omega
        clear hlen HO HUP HNB
        go_wp2_with fail
        go_loopw [4, 5, 20] (fun s er i wr => MidN w A0 us s er i wr) (fun _ _ i _ => m - (intOf i).toNat)
        case atStart => exact HSN.out
        case round =>
          clear HSN
          obtain ⟨rfl, k, A, sa, sn, sc, hk, rfl, rfl, hO, hUp, hNB, hlen, hE, hBw⟩ := hrel
          have HO := WirS.hide hO
          have HUP := WirS.hide hUp
          have HNB := WirS.hide hNB
          have HBW := WirS.hide hBw
          rw [HLU.out] at hk
          by_cases hlt : k < m
          · obtain ⟨x, Bx, ox, hx, hmem, rfl, hBl2, hr⟩ := (HU.out.below hBw).cell hlt
            have r0 : wr.cell? ⟨Bx, ox + k * 2, none⟩ = some (.int .i64 x.at') := hr 0 _ rfl
            have r1 : wr.cell? ⟨Bx, ox + k * 2 + 1, none⟩ = some (.int .u64 x.sg) := hr 1 _ rfl
            have hkl : (k : Int) < (m : Int) := by omega
            have hxo := HU.out.ok x hmem
            have hxp := HUU.out.rng x hmem
            have hsl : A.length = sn := by obtain ⟨va, vc, e⟩ := hO.len_of; cases e; rfl
            have hsn : sn ≤ 150 := by omega
            rw [drop_get hx] at hE
            obtain ⟨W1, e1⟩ : ∃ X, X = wr.alloc (.cells #[.int .i64 x.at', .int .u64 x.sg] TV) := ⟨_, rfl⟩
            obtain ⟨Y, eY⟩ : ∃ Y, wr.heap.size = Y := ⟨_, rfl⟩
            have hA1 : At W1 Y TV x.cells := by rw [e1, ← eY]; exact At.new wr _ _
            have h01 : Below wr.heap.size wr W1 := by rw [e1]; exact Below.alloc (Below.refl _ _) (Nat.le_refl _) _
            have HB1 := WirS.hide (hBw.trans (h01.mono hBw.size))
            have hO1 := hO.below h01
            have HYn := WirS.hide (show (Value.slice sa sn sc).ownBlock ≠ some Y from fun e => by have := hO.lt Y e; omega)
            have HFD := WirS.hide (find_any W1 sa sn sc A x.at' hO1.vin hUp (by omega))
            have HA1 := WirS.hide hA1
            have HO1 := WirS.hide hO1
            have HSL := WirS.hide hsl
            have HXO := WirS.hide hxo
            have HXP := WirS.hide hxp
            have HLE := WirS.hide hlen
            have HWY := WirS.hide (show w.heap.size ≤ Y by rw [← eY]; exact hBw.size)
            have E1 := WirS.hide e1
            have hcl := cut_le x.at' A
            rw [hsl] at hcl
            have HCL := WirS.hide hcl
            clear hr hx hmem hxo hxp hA1 h01 hO1 hsl e1 hO hUp hNB hBw hlen hcl
            cases ho : ofV x.at' A with
            | none =>
              rw [ho] at HFD
              have hE2 : mg A0 us = mg (insV A x) (us.drop (k + 1)) := by rw [hE, mg_step_none ho]
              have HE := WirS.hide hE2
              have HUP2 := WirS.hide (up_insV HUP.out HXP.out ho)
              have HIL := WirS.hide (insV_len A x)
              have HINS := WirS.hide (fun (U : World) (V : Nat) (h1 : OwnT U (.slice sa sn sc) A) (h2 : At U V TV x.cells) (h3 : (Value.slice sa sn sc).ownBlock ≠ some V) => insert_any U sa sn sc (cut x.at' A) V A x h1 h2 HXO.out h3 HCL.out (by omega))
              rw [show ins A (cut x.at' A) x = insV A x from rfl] at HINS
              generalize (cut x.at' A : Nat) = q at *
              clear hE hE2 ho
              go_upto_region 9 with fail
              rw [show wr.alloc (.cells #[.int .i64 x.at', .int .u64 x.sg] TV) = W1 from E1.out.symm]
              clear r0 r1 eY E1
              have y0 : W1.cell? ⟨Y, 0, none⟩ = some (.int .i64 x.at') := HA1.out.cell 0
              go_upto_region 11 with (go_at_call 168; refine (HFD.out).mono ?_; rintro e u1 ⟨rfl, hb⟩; have HU1 := WirS.hide hb; clear hb)
              clear y0
              have HB2 := WirS.hide (HB1.out.trans (HU1.out.mono HB1.out.size))
              have hO2 := HO1.out.below HU1.out
              have hA2 := At.below HA1.out HU1.out HA1.out.lt
              have hal : Below u1.heap.size u1 (u1.alloc (.cells x.cells.toArray TV)) := Below.alloc (Below.refl _ _) (Nat.le_refl _) _
              obtain ⟨V, eV⟩ : ∃ V, u1.heap.size = V := ⟨_, rfl⟩
              have HC := WirS.hide (HINS.out (u1.alloc (.cells x.cells.toArray TV)) V (hO2.below hal) (by rw [← eV]; exact At.new u1 _ _) (fun e => by have := hO2.lt V e; omega))
              have HB3 := WirS.hide (HB2.out.trans (hal.mono HB2.out.size))
              have HA2 := WirS.hide hA2
              clear hO2 hA2 hal
              refine wp_region_lit ?_
              refine sV (.slice sa sn sc) (u1) (by kernel_rfl) (by kernel_rfl) ?_
              simp only [Act.put, List.setIfInBounds_toArray, List.set_cons_succ, List.set_cons_zero]
              refine sV (.int .i64 (q : Int)) (u1) (by kernel_rfl) (by kernel_rfl) ?_
              simp only [Act.put, List.setIfInBounds_toArray, List.set_cons_succ, List.set_cons_zero]
              refine sL (by kernel_rfl) _ _ (by rfl) _ (by kernel_rfl) HA2.out _ 2 Try.underlying113 rfl (by kernel_rfl) (by rfl) ?_
              simp only [Act.put, List.setIfInBounds_toArray, List.set_cons_succ, List.set_cons_zero]
              refine sV (.slice (some ⟨u1.heap.size, 0, none⟩) 1 1) (u1.alloc (.cells x.cells.toArray TV)) (by kernel_rfl) (by kernel_rfl) ?_
              simp only [Act.put, List.setIfInBounds_toArray, List.set_cons_succ, List.set_cons_zero]
              rw [eV]
              refine sCx (by kernel_rfl) (by kernel_rfl) HC.out ?_
              rintro e u3 ⟨ia, im, ic, rfl, hio, hif, hin⟩
              refine ⟨_, rfl, ?_⟩
              simp only [Act.put, List.setIfInBounds_toArray, List.set_cons_succ, List.set_cons_zero]
              have HIO := WirS.hide hio
              have HBF := WirS.hide (HB3.out.trans (hif.below (B := w.heap.size) HB3.out.size (fun q hq hx => by have := HNB.out q hx; omega)))
              have HNN := WirS.hide (show NewB w (.slice ia im ic) from fun q hq => by
                rcases hin q hq with h | h
                · exact HNB.out q h
                · exact Nat.le_trans HB3.out.size h)
              clear hio hif hin HC eV
              go_wp2_with fail
              go_roundw
              case rel => exact ⟨rfl, k + 1, insV A x, ia, im, ic, by rw [HLU.out]; omega, by go_num, rfl, HIO.out, HUP2.out, HNN.out, by have := HIL.out; have := HLE.out; omega, HE.out, HBF.out⟩
              case measure => simp [intOf]; omega
            | some sg =>
              rw [ho] at HFD
              have hfd := at_found HUP.out ho
              have hcl := HCL.out
              have hql : cut x.at' A < sn := by have := (List.getElem?_eq_some_iff.1 hfd).1; have := HSL.out; omega
              generalize hq : (cut x.at' A : Nat) = q at *
              clear hq
              have HFO := WirS.hide hfd
              have hq2 : (q : Int) < (sn : Int) := by omega
              clear hfd hcl
              by_cases es : sg = x.sg
              · have hE2 : mg A0 us = mg A (us.drop (k + 1)) := by rw [hE, mg_step_same ho es]
                have HE := WirS.hide hE2
                clear hE hE2 ho
                go_upto_region 9 with fail
                rw [show wr.alloc (.cells #[.int .i64 x.at', .int .u64 x.sg] TV) = W1 from E1.out.symm]
                clear r0 r1 eY E1
                have y0 : W1.cell? ⟨Y, 0, none⟩ = some (.int .i64 x.at') := HA1.out.cell 0
                go_upto_region 12 with (go_at_call 168; refine (HFD.out).mono ?_; rintro e u1 ⟨rfl, hb⟩; have HU1 := WirS.hide hb; clear hb)
                clear y0
                obtain ⟨z, Bz, oz, hz, _, rfl, _, hzr⟩ := (HO1.out.below HU1.out).vin.cell hql
                rw [HFO.out] at hz
                cases hz
                have z0 : u1.cell? ⟨Bz, oz + q * 2, none⟩ = some (.int .i64 x.at') := hzr 0 _ rfl
                have z1 : u1.cell? ⟨Bz, oz + q * 2 + 1, none⟩ = some (.int .u64 sg) := hzr 1 _ rfl
                have hA2 := At.below HA1.out HU1.out HA1.out.lt
                have y0 : u1.cell? ⟨Y, 0, none⟩ = some (.int .i64 x.at') := hA2.cell 0
                have y1 : u1.cell? ⟨Y, 1, none⟩ = some (.int .u64 x.sg) := hA2.cell 1
                have hne := fun W => ne_vote x.at' sg x.at' x.sg W
                rw [show (!(x.at' == x.at' && sg == x.sg)) = false by simp [es]] at hne
                have HB2 := WirS.hide (HB1.out.trans (HU1.out.mono HB1.out.size))
                clear hzr hA2 hql es
                go_quiet (fail)
                go_wp2_with fail
                go_roundw
                case rel => exact ⟨rfl, k + 1, A, _, sn, sc, by rw [HLU.out]; omega, by go_num, rfl, by first | exact (HO1.out.below HU1.out).below (below_drewN (below_drewN (Below.refl _ _) _) _) | exact (HO1.out.below HU1.out).below (below_drewN (Below.refl _ _) _), HUP.out, HNB.out, by have := HLE.out; omega, HE.out, by first | exact below_drewN (below_drewN HB2.out _) _ | exact below_drewN HB2.out _⟩
                case measure => simp [intOf]; omega
              · have hE2 : mg A0 us = none := by rw [hE, mg_step_bad ho es]
                have HE := WirS.hide hE2
                clear hE hE2 ho
                go_upto_region 9 with fail
                rw [show wr.alloc (.cells #[.int .i64 x.at', .int .u64 x.sg] TV) = W1 from E1.out.symm]
                clear r0 r1 eY E1
                have y0 : W1.cell? ⟨Y, 0, none⟩ = some (.int .i64 x.at') := HA1.out.cell 0
                go_upto_region 12 with (go_at_call 168; refine (HFD.out).mono ?_; rintro e u1 ⟨rfl, hb⟩; have HU1 := WirS.hide hb; clear hb)
                clear y0
                obtain ⟨z, Bz, oz, hz, _, rfl, _, hzr⟩ := (HO1.out.below HU1.out).vin.cell hql
                rw [HFO.out] at hz
                cases hz
                have z0 : u1.cell? ⟨Bz, oz + q * 2, none⟩ = some (.int .i64 x.at') := hzr 0 _ rfl
                have z1 : u1.cell? ⟨Bz, oz + q * 2 + 1, none⟩ = some (.int .u64 sg) := hzr 1 _ rfl
                have hA2 := At.below HA1.out HU1.out HA1.out.lt
                have y0 : u1.cell? ⟨Y, 0, none⟩ = some (.int .i64 x.at') := hA2.cell 0
                have y1 : u1.cell? ⟨Y, 1, none⟩ = some (.int .u64 x.sg) := hA2.cell 1
                have hne := fun W => ne_vote x.at' sg x.at' x.sg W
                rw [show (!(x.at' == x.at' && sg == x.sg)) = true by simp [es]] at hne
                have HB2 := WirS.hide (HB1.out.trans (HU1.out.mono HB1.out.size))
                clear hzr hA2 hql es
                go_quiet (fail)
                go_wp2_with fail
                refine bodyPost_ret (v := .tuple #[.slice none 0 0, .int .i64 8]) (by simp [results, Try.results172, go_sem]) rfl ?_
                rw [HE.out]
                exact ⟨rfl, by first | exact below_drewN (below_drewN HB2.out _) _ | exact below_drewN HB2.out _⟩
          · obtain rfl : k = m := by omega
            rw [List.drop_eq_nil_of_le (by rw [HLU.out]; exact Nat.le_refl _), mg] at hE
            have HE := WirS.hide hE
            have HLE := WirS.hide hlen
            clear hE hO hUp hNB hBw hlen
            go_wp2_with fail
            go_roundw
            case rel => exact ⟨rfl, 2, A, sa, sn, sc, by omega, by rfl, rfl, HO.out, HUP.out, HNB.out, by have := HLE.out; omega, ⟨fun h => absurd h (by decide), fun h => absurd h (by decide), fun _ => HE.out⟩, HBW.out⟩
            case measure => simp [intOf]
    · obtain rfl : j = 2 := by omega
      have hr : mg vs us = some A0 := HCS.out.2.2 rfl
      have HR := WirS.hide hr
      clear hBw hr
      go_wp2_with fail
      refine bodyPost_ret (v := .tuple #[.slice s0 n0 c0, .int .i64 0]) (by simp [results, Try.results172, go_sem]) rfl ?_
      rw [HR.out]
      exact ⟨s0, n0, c0, rfl, HO.out, HNB.out, HBW.out⟩
end CmK
end Go.Proofs.Ytplinpbmncccoaa
