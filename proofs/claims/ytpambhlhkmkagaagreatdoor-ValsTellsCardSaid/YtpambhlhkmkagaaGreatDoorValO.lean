/-
  The iterator of merge.
-/
import Derived.Test.YtpambhlhkmkagaaGreatDoorPvO
import Derived.Test.YtpambhlhkmkagaaGreatDoorSeq2
import Derived.OneCell
namespace Go.Proofs.YtpambhlhkmkagaaGreatDoor
namespace ValO
open Go.RowKit
open BlkM WirM WirS WirA WirB ValA ValB ValC ValD ValE ValH ValP ValM ValN
open Go.Proofs.YtpambhlhkmkagaaGreatDoor.Seq2
attribute [local go_sem] Oper.semAt_some

def sl : Value → Nat
  | .slice _ n _ => n
  | _ => 0
/-- What stands at the head of a round of the iterator. -/
def Rnd (w00 : World) (H : Nat) (M : List Vd) (J : List Vd → World → Prop) (o c : Value) (U : World) : Prop :=
  ∃ (pre os cs : List Vd) (a : Option Addr) (n k : Nat) (a' : Option Addr) (n' k' : Nat), o = .slice a n k ∧ c = .slice a' n' k' ∧ VIn w00 a n k os ∧ VIn w00 a' n' k' cs ∧ Hid (pre ++ mrg os cs = M) ∧ J pre U ∧ Below w00.heap.size w00 U ∧ H ≤ U.heap.size
/-- The value of a validator, as yield takes it. -/
def encV (x : Vd) : Array Value := #[.agg #[.int .u8 x.a, .int .u8 x.b, .int .u8 x.c, .int .u8 x.d, .int .i64 x.p]]
theorem put5 {w : World} {L : Nat} {T : TypeId} {c0 c1 c2 c3 c4 : Value} (h : At w L T [c0, c1, c2, c3, c4]) (x : Vd) : At (((((w.setCell ⟨L, 0, none⟩ (.int .u8 x.a)).setCell ⟨L, 1, none⟩ (.int .u8 x.b)).setCell ⟨L, 2, none⟩ (.int .u8 x.c)).setCell ⟨L, 3, none⟩ (.int .u8 x.d)).setCell ⟨L, 4, none⟩ (.int .i64 x.p)) L T x.cells :=
  ((((h.setCell 0 _).setCell 1 _).setCell 2 _).setCell 3 _).setCell 4 _
theorem below5 {w0 w : World} {H L : Nat} (h : Below H w0 w) (hL : H ≤ L) (x0 x1 x2 x3 x4 : Value) : Below H w0 (((((w.setCell ⟨L, 0, none⟩ x0).setCell ⟨L, 1, none⟩ x1).setCell ⟨L, 2, none⟩ x2).setCell ⟨L, 3, none⟩ x3).setCell ⟨L, 4, none⟩ x4) :=
  ((((h.setCell (p := ⟨L, 0, none⟩) hL _).setCell (p := ⟨L, 1, none⟩) hL _).setCell (p := ⟨L, 2, none⟩) hL _).setCell (p := ⟨L, 3, none⟩) hL _).setCell (p := ⟨L, 4, none⟩) hL _
set_option maxRecDepth 10000 in
set_option maxHeartbeats 20000000 in
theorem merge_gives (n : Nat) (w00 w0 : World) (hb0 : Below w00.heap.size w00 w0) (A B : Nat) (a1 a2 : Option Addr) (n1 k1 n2 k2 : Nat) (vs ch : List Vd) (h1 : VIn w00 a1 n1 k1 vs) (h2 : VIn w00 a2 n2 k2 ch)
    (hA : At w0 A 22 [.slice a1 n1 k1]) (hB : At w0 B 22 [.slice a2 n2 k2]) :
    Gives n Tryz.prog 93 #[.pointer (some ⟨A, 0, none⟩), .pointer (some ⟨B, 0, none⟩)] encV (Below w00.heap.size) (fun xs => xs = mrg vs ch) (fun xs => xs <+: mrg vs ch) w0 := by
  intro l J Jx W hBW hJ hY h0
  have hA1 := hA.below hBW hA.lt
  have hB1 := hB.below hBW hB.lt
  have cA : W.cell? ⟨A, 0, none⟩ = some (.slice a1 n1 k1) := hA1.cell 0
  have cB : W.cell? ⟨B, 0, none⟩ = some (.slice a2 n2 k2) := hB1.cell 0
  have hbW : Below w00.heap.size w00 W := hb0.trans (hBW.mono hb0.size)
  obtain ⟨M, hM⟩ : ∃ M, M = mrg vs ch := ⟨_, rfl⟩
  rw [← hM] at hY ⊢
  have hst : ∀ q, Rnd w00 W.heap.size M J (.slice a1 n1 k1) (.slice a2 n2 k2) (W.drewN q) := fun q => ⟨[], vs, ch, a1, n1, k1, a2, n2, k2, rfl, rfl, h1, h2, WirS.hide (by rw [hM]; rfl), hJ _ _ _ h0 (below_drewN (Below.refl _ _) q), below_drewN hbW q, Nat.le_refl _⟩
  have HST := WirS.hide hst
  have HJ := WirS.hide hJ
  have HY := WirS.hide hY
  have HM := WirS.hide hM
  clear hJ hY hM hst h0 hA hB hA1 hB1 h1 h2 hBW
  refine callsIn_wide.2 ?_
  change Calls Tryz.prog 93 #[.func (.yield l) #[] #[], .pointer (some ⟨A, 0, none⟩), .pointer (some ⟨B, 0, none⟩)] W _
  go_enter Tryz.func93, Tryz.ntmps93
  go_upto_region 0 with fail
  go_quiet (fail)
  go_wp2_with fail
  go_loopw [4, 5] (fun o c wr => Rnd w00 W.heap.size M J o c wr) (fun o c _ => sl o + sl c)
  case atStart => exact HST.out _
  case round =>
    clear HST cA cB
    obtain ⟨pre, os, cs, a, n3, k3, a', n4, k4, rfl, rfl, hV1, hV2, hE, hJp, hBw, hHw⟩ := hrel
    by_cases hos : os = []
    · by_cases hcs : cs = []
      · subst hos
        subst hcs
        have l1 := hV1.len
        have l2 := hV2.len
        obtain rfl : n3 = 0 := by simpa using l1.symm
        obtain rfl : n4 = 0 := by simpa using l2.symm
        have hall : pre = M := by have := hE.out; rw [mrg_nil_left] at this; simpa using this
        have HA := WirS.hide hall
        clear hall hE l1 l2 hV1 hV2
        go_wp2_with fail
        go_end0
        exact ⟨⟨_, rfl⟩, .inl ⟨_, HA.out, hJp⟩⟩
      · -- only changes are left
        subst hos
        obtain ⟨c, cs', rfl⟩ : ∃ c l, cs = c :: l := by cases cs with | nil => exact absurd rfl hcs | cons c l => exact ⟨c, l, rfl⟩
        have l1 := hV1.len
        have hn3 : n3 = 0 := by simpa using l1.symm
        obtain ⟨B2, o2, m2, rfl, hn4, hBl, hr, hok⟩ := VIn.head (hV2.below hBw)
        obtain ⟨at2, ct2, hsl, hN2⟩ := cut_one (show VIn w00 (some ⟨B2, o2, none⟩) (m2 + 1) k4 (c :: cs') by rw [← hn4]; exact hV2)
        rw [← hn4] at hsl
        have HN1 := WirS.hide hV1
        have HN2 := WirS.hide hN2
        have g1 : decide ((0 : Int) < (n3 : Int)) = false := by rw [hn3]; rfl
        have g2 : ((n4 : Int) == 0) = false := by simp; omega
        have g3 : (0 : Int) < (n4 : Int) := by omega
        have HN3 := WirS.hide hn3
        have HN4 := WirS.hide hn4
        have hpre : pre ++ [c] <+: M := ⟨mrg [] cs', by have := hE.out; rw [show mrg [] (c :: cs') = c :: mrg [] cs' by rw [mrg_nil_left, mrg_nil_left]] at this; rw [← this]; simp⟩
        have HE2 : Hid ((pre ++ [c]) ++ mrg [] cs' = M) := WirS.hide (by have := hE.out; rw [show mrg [] (c :: cs') = c :: mrg [] cs' by rw [mrg_nil_left, mrg_nil_left]] at this; rw [← this]; simp)
        have HPre := WirS.hide hpre
        clear hpre hE
        have hlt := Nat.lt_irrefl 0
        have HL0 := WirS.hide (show At (wr.alloc (.cells #[.int .u8 0, .int .u8 0, .int .u8 0, .int .u8 0, .int .i64 0] 55)) wr.heap.size 55 [.int .u8 0, .int .u8 0, .int .u8 0, .int .u8 0, .int .i64 0] from At.new wr _ _)
        obtain ⟨wa, ewa⟩ : ∃ wa, wa = wr.alloc (.cells #[.int .u8 0, .int .u8 0, .int .u8 0, .int .u8 0, .int .i64 0] 55) := ⟨_, rfl⟩
        rw [← ewa] at HL0
        have HBa := WirS.hide (show Below wr.heap.size wr wa by rw [ewa]; exact Below.alloc (Below.refl _ _) (Nat.le_refl _) _)
        have HCa := WirS.hide (show Below w00.heap.size w00 wa by rw [ewa]; exact hBw.alloc hBw.size _)
        have EWA := WirS.hide ewa
        clear ewa hlt
        have hra : wa.rangeAt B2 o2 c.cells := fun j v hj => by rw [EWA.out]; exact ((Below.alloc (Below.refl wr.heap.size wr) (Nat.le_refl _) _).cell (p := ⟨B2, o2 + j, none⟩) hBl).trans (hr j v hj)
        have HRA := WirS.hide hra
        have r0 : wa.cell? ⟨B2, o2, none⟩ = some (.int .u8 c.a) := hra 0 _ rfl
        have r1 : wa.cell? ⟨B2, o2 + 1, none⟩ = some (.int .u8 c.b) := hra 1 _ rfl
        have r2 : wa.cell? ⟨B2, o2 + 2, none⟩ = some (.int .u8 c.c) := hra 2 _ rfl
        have r3 : wa.cell? ⟨B2, o2 + 3, none⟩ = some (.int .u8 c.d) := hra 3 _ rfl
        have r4 : wa.cell? ⟨B2, o2 + 4, none⟩ = some (.int .i64 c.p) := hra 4 _ rfl
        have hne : B2 ≠ wr.heap.size := by omega
        rw [HN3.out] at HN1
        clear hr hra hcs l1 hV1 hV2 hN2 hn3 hn4
        go_upto_region 4 with fail
        rw [← EWA.out]
        go_quiet (fail)
        go_upto_region 6 with fail
        go_quiet (fail)
        go_upto_region 3 with fail
        generalize hW : World.drewN (World.drewN wa _) _ = W1
        have HL1 := WirS.hide (show At W1 wr.heap.size 55 [.int .u8 0, .int .u8 0, .int .u8 0, .int .u8 0, .int .i64 0] by rw [← hW]; exact HL0.out)
        have HB1 := WirS.hide (show Below wr.heap.size wr W1 by rw [← hW]; first | exact below_drewN (below_drewN HBa.out _) _ | exact below_drewN HBa.out _)
        have HC1 := WirS.hide (show Below w00.heap.size w00 W1 by rw [← hW]; first | exact below_drewN (below_drewN HCa.out _) _ | exact below_drewN HCa.out _)
        have hrb : W1.rangeAt B2 o2 c.cells := by rw [← hW]; exact HRA.out
        clear hW r0 r1 r2 r3 r4
        have q0 : W1.cell? ⟨B2, o2, none⟩ = some (.int .u8 c.a) := hrb 0 _ rfl
        have q1 : W1.cell? ⟨B2, o2 + 1, none⟩ = some (.int .u8 c.b) := hrb 1 _ rfl
        have q2 : W1.cell? ⟨B2, o2 + 2, none⟩ = some (.int .u8 c.c) := hrb 2 _ rfl
        have q3 : W1.cell? ⟨B2, o2 + 3, none⟩ = some (.int .u8 c.d) := hrb 3 _ rfl
        have q4 : W1.cell? ⟨B2, o2 + 4, none⟩ = some (.int .i64 c.p) := hrb 4 _ rfl
        have l0 : W1.cell? ⟨wr.heap.size, 0, none⟩ = some (.int .u8 0) := HL1.out.cell 0
        have lf0 := HL1.out.frozen 0
        have l1 : W1.cell? ⟨wr.heap.size, 1, none⟩ = some (.int .u8 0) := HL1.out.cell 1
        have lf1 := HL1.out.frozen 1
        have l2 : W1.cell? ⟨wr.heap.size, 2, none⟩ = some (.int .u8 0) := HL1.out.cell 2
        have lf2 := HL1.out.frozen 2
        have l3 : W1.cell? ⟨wr.heap.size, 3, none⟩ = some (.int .u8 0) := HL1.out.cell 3
        have lf3 := HL1.out.frozen 3
        have l4 : W1.cell? ⟨wr.heap.size, 4, none⟩ = some (.int .i64 0) := HL1.out.cell 4
        have lf4 := HL1.out.frozen 4
        clear hrb
        go_region
        go_upto_region 8 with fail
        generalize hU : World.drew _ = U
        have hLU : At U wr.heap.size 55 c.cells := by rw [← hU]; exact put5 HL1.out c
        have hBU : Below wr.heap.size wr U := by rw [← hU]; exact (below5 HB1.out (Nat.le_refl _) _ _ _ _ _).drew
        have hCU : Below w00.heap.size w00 U := by rw [← hU]; exact (below5 HC1.out hBw.size _ _ _ _ _).drew
        have hJU := HJ.out _ _ _ hJp hBU
        obtain ⟨fn, tmps, assign, body, hy, hR⟩ := HY.out pre c U hJU HPre.out
        have y0 : U.cell? ⟨wr.heap.size, 0, none⟩ = some (.int .u8 c.a) := hLU.cell 0
        have y1 : U.cell? ⟨wr.heap.size, 1, none⟩ = some (.int .u8 c.b) := hLU.cell 1
        have y2 : U.cell? ⟨wr.heap.size, 2, none⟩ = some (.int .u8 c.c) := hLU.cell 2
        have y3 : U.cell? ⟨wr.heap.size, 3, none⟩ = some (.int .u8 c.d) := hLU.cell 3
        have y4 : U.cell? ⟨wr.heap.size, 4, none⟩ = some (.int .i64 c.p) := hLU.cell 4
        have hUs := hBU.size
        have HCU := WirS.hide hCU
        clear hU hLU hBU hJU hCU
        unfold encV at hy
        refine (wpIn_wide (n := n)).1 ?_
        gi_wp2_with fail
        refine ⟨fun h => by simp [Fence.wide] at h, hR.mono ?_⟩
        rintro e U' (⟨rfl, hJ2, hk, hkp⟩ | ⟨rfl, hJx2⟩)
        · have HK := WirS.hide hk
          have HKP := WirS.hide hkp
          clear hk hkp y0 y1 y2 y3 y4
          gi_wp2
          go_wp2_with fail
          go_roundw
          case rel => exact ⟨pre ++ [c], [], cs', _, _, _, _, _, _, rfl, rfl, HN1.out, HN2.out, HE2, hJ2, HCU.out.trans HKP.out, Nat.le_trans hHw (Nat.le_trans hUs HK.out.1)⟩
          case measure => simp [sl]; have := HN4.out; omega
        · gi_wp2
          go_wp2_with fail
          first | go_end0 | refine bodyPost_ret (results_none rfl _ _ _) rfl ?_
          exact ⟨⟨_, rfl⟩, .inr ⟨_, HPre.out, hJx2⟩⟩
    · obtain ⟨o, os', rfl⟩ : ∃ o l, os = o :: l := by cases os with | nil => exact absurd rfl hos | cons o l => exact ⟨o, l, rfl⟩
      clear hos
      by_cases hcs : cs = []
      · subst hcs
        have l2 := hV2.len
        obtain rfl : n4 = 0 := by simpa using l2.symm
        obtain ⟨B1, o1, m1, rfl, hn3, hBl, hr, hok⟩ := VIn.head (hV1.below hBw)
        obtain ⟨at1, ct1, hsl, hN1⟩ := cut_one (show VIn w00 (some ⟨B1, o1, none⟩) (m1 + 1) k3 (o :: os') by rw [← hn3]; exact hV1)
        rw [← hn3] at hsl
        have HN1 := WirS.hide hN1
        have HN2 := WirS.hide hV2
        have g3 : (0 : Int) < (n3 : Int) := by omega
        have HN3 := WirS.hide hn3
        clear l2
        have hpre : pre ++ [o] <+: M := ⟨mrg os' [], by have := hE.out; rw [show mrg (o :: os') [] = o :: mrg os' [] by rw [mrg_nil_right, mrg_nil_right]] at this; rw [← this]; simp⟩
        have HE2 : Hid ((pre ++ [o]) ++ mrg os' [] = M) := WirS.hide (by have := hE.out; rw [show mrg (o :: os') [] = o :: mrg os' [] by rw [mrg_nil_right, mrg_nil_right]] at this; rw [← this]; simp)
        have HPre := WirS.hide hpre
        clear hpre hE
        have hlt := Nat.lt_irrefl 0
        have HL0 := WirS.hide (show At (wr.alloc (.cells #[.int .u8 0, .int .u8 0, .int .u8 0, .int .u8 0, .int .i64 0] 55)) wr.heap.size 55 [.int .u8 0, .int .u8 0, .int .u8 0, .int .u8 0, .int .i64 0] from At.new wr _ _)
        obtain ⟨wa, ewa⟩ : ∃ wa, wa = wr.alloc (.cells #[.int .u8 0, .int .u8 0, .int .u8 0, .int .u8 0, .int .i64 0] 55) := ⟨_, rfl⟩
        rw [← ewa] at HL0
        have HBa := WirS.hide (show Below wr.heap.size wr wa by rw [ewa]; exact Below.alloc (Below.refl _ _) (Nat.le_refl _) _)
        have HCa := WirS.hide (show Below w00.heap.size w00 wa by rw [ewa]; exact hBw.alloc hBw.size _)
        have EWA := WirS.hide ewa
        clear ewa hlt
        have hra : wa.rangeAt B1 o1 o.cells := fun j v hj => by rw [EWA.out]; exact ((Below.alloc (Below.refl wr.heap.size wr) (Nat.le_refl _) _).cell (p := ⟨B1, o1 + j, none⟩) hBl).trans (hr j v hj)
        have HRA := WirS.hide hra
        have hne : B1 ≠ wr.heap.size := by omega
        clear hr hra hV1 hV2 hN1 hn3
        go_upto_region 4 with fail
        rw [← EWA.out]
        go_quiet (fail)
        go_upto_region 5 with fail
        generalize hW : World.drewN wa _ = W1
        have HL1 := WirS.hide (show At W1 wr.heap.size 55 [.int .u8 0, .int .u8 0, .int .u8 0, .int .u8 0, .int .i64 0] by rw [← hW]; exact HL0.out)
        have HB1 := WirS.hide (show Below wr.heap.size wr W1 by rw [← hW]; first | exact below_drewN (below_drewN HBa.out _) _ | exact below_drewN HBa.out _)
        have HC1 := WirS.hide (show Below w00.heap.size w00 W1 by rw [← hW]; first | exact below_drewN (below_drewN HCa.out _) _ | exact below_drewN HCa.out _)
        have hrb : W1.rangeAt B1 o1 o.cells := by rw [← hW]; exact HRA.out
        clear hW 
        have q0 : W1.cell? ⟨B1, o1, none⟩ = some (.int .u8 o.a) := hrb 0 _ rfl
        have q1 : W1.cell? ⟨B1, o1 + 1, none⟩ = some (.int .u8 o.b) := hrb 1 _ rfl
        have q2 : W1.cell? ⟨B1, o1 + 2, none⟩ = some (.int .u8 o.c) := hrb 2 _ rfl
        have q3 : W1.cell? ⟨B1, o1 + 3, none⟩ = some (.int .u8 o.d) := hrb 3 _ rfl
        have q4 : W1.cell? ⟨B1, o1 + 4, none⟩ = some (.int .i64 o.p) := hrb 4 _ rfl
        have l0 : W1.cell? ⟨wr.heap.size, 0, none⟩ = some (.int .u8 0) := HL1.out.cell 0
        have lf0 := HL1.out.frozen 0
        have l1 : W1.cell? ⟨wr.heap.size, 1, none⟩ = some (.int .u8 0) := HL1.out.cell 1
        have lf1 := HL1.out.frozen 1
        have l2 : W1.cell? ⟨wr.heap.size, 2, none⟩ = some (.int .u8 0) := HL1.out.cell 2
        have lf2 := HL1.out.frozen 2
        have l3 : W1.cell? ⟨wr.heap.size, 3, none⟩ = some (.int .u8 0) := HL1.out.cell 3
        have lf3 := HL1.out.frozen 3
        have l4 : W1.cell? ⟨wr.heap.size, 4, none⟩ = some (.int .i64 0) := HL1.out.cell 4
        have lf4 := HL1.out.frozen 4
        clear hrb
        go_region
        go_upto_region 8 with fail
        generalize hU : World.drew _ = U
        have hLU : At U wr.heap.size 55 o.cells := by rw [← hU]; exact put5 HL1.out o
        have hBU : Below wr.heap.size wr U := by rw [← hU]; exact (below5 HB1.out (Nat.le_refl _) _ _ _ _ _).drew
        have hCU : Below w00.heap.size w00 U := by rw [← hU]; exact (below5 HC1.out hBw.size _ _ _ _ _).drew
        have hJU := HJ.out _ _ _ hJp hBU
        obtain ⟨fn, tmps, assign, body, hy, hR⟩ := HY.out pre o U hJU HPre.out
        have y0 : U.cell? ⟨wr.heap.size, 0, none⟩ = some (.int .u8 o.a) := hLU.cell 0
        have y1 : U.cell? ⟨wr.heap.size, 1, none⟩ = some (.int .u8 o.b) := hLU.cell 1
        have y2 : U.cell? ⟨wr.heap.size, 2, none⟩ = some (.int .u8 o.c) := hLU.cell 2
        have y3 : U.cell? ⟨wr.heap.size, 3, none⟩ = some (.int .u8 o.d) := hLU.cell 3
        have y4 : U.cell? ⟨wr.heap.size, 4, none⟩ = some (.int .i64 o.p) := hLU.cell 4
        have hUs := hBU.size
        have HCU := WirS.hide hCU
        clear hU hLU hBU hJU hCU
        unfold encV at hy
        refine (wpIn_wide (n := n)).1 ?_
        gi_wp2_with fail
        refine ⟨fun h => by simp [Fence.wide] at h, hR.mono ?_⟩
        rintro e U' (⟨rfl, hJ2, hk, hkp⟩ | ⟨rfl, hJx2⟩)
        · have HK := WirS.hide hk
          have HKP := WirS.hide hkp
          clear hk hkp y0 y1 y2 y3 y4
          gi_wp2
          go_wp2_with fail
          go_roundw
          case rel => exact ⟨pre ++ [o], os', [], _, _, _, _, _, _, rfl, rfl, HN1.out, HN2.out, HE2, hJ2, HCU.out.trans HKP.out, Nat.le_trans hHw (Nat.le_trans hUs HK.out.1)⟩
          case measure => simp [sl]; have := HN3.out; omega
        · gi_wp2
          go_wp2_with fail
          first | go_end0 | refine bodyPost_ret (results_none rfl _ _ _) rfl ?_
          exact ⟨⟨_, rfl⟩, .inr ⟨_, HPre.out, hJx2⟩⟩
      · obtain ⟨c, cs', rfl⟩ : ∃ c l, cs = c :: l := by cases cs with | nil => exact absurd rfl hcs | cons c l => exact ⟨c, l, rfl⟩
        clear hcs
        have HV1 := WirS.hide hV1
        have HV2 := WirS.hide hV2
        obtain ⟨B1, o1, m1, rfl, hn3, hBl, hr, hok⟩ := VIn.head (hV1.below hBw)
        obtain ⟨at1, ct1, hsl, hN1⟩ := cut_one (show VIn w00 (some ⟨B1, o1, none⟩) (m1 + 1) k3 (o :: os') by rw [← hn3]; exact hV1)
        rw [← hn3] at hsl
        obtain ⟨B2, o2, m2, rfl, hn4, hBl2, hr2, hok2⟩ := VIn.head (hV2.below hBw)
        obtain ⟨at2, ct2, hsl2, hN2⟩ := cut_one (show VIn w00 (some ⟨B2, o2, none⟩) (m2 + 1) k4 (c :: cs') by rw [← hn4]; exact hV2)
        rw [← hn4] at hsl2
        have HN1 := WirS.hide hN1
        have HN2 := WirS.hide hN2
        have g3 : (0 : Int) < (n3 : Int) := by omega
        have g4 : (0 : Int) < (n4 : Int) := by omega
        have g3n : 0 < n3 := by omega
        have g4n : 0 < n4 := by omega
        have g5 : ((n4 : Int) == 0) = false := by simp; omega
        have HN3 := WirS.hide hn3
        have HN4 := WirS.hide hn4
        by_cases hlt : o.rk < c.rk
        · have hpre : pre ++ [o] <+: M := ⟨mrg os' (c :: cs'), by have := hE.out; rw [mrg_lt os' cs' hlt] at this; rw [← this]; simp⟩
          have HE2 : Hid ((pre ++ [o]) ++ mrg os' (c :: cs') = M) := WirS.hide (by have := hE.out; rw [mrg_lt os' cs' hlt] at this; rw [← this]; simp)
          have HPre := WirS.hide hpre
          clear hpre hE
          have hlt := Nat.lt_irrefl 0
          have HL0 := WirS.hide (show At (wr.alloc (.cells #[.int .u8 0, .int .u8 0, .int .u8 0, .int .u8 0, .int .i64 0] 55)) wr.heap.size 55 [.int .u8 0, .int .u8 0, .int .u8 0, .int .u8 0, .int .i64 0] from At.new wr _ _)
          obtain ⟨wa, ewa⟩ : ∃ wa, wa = wr.alloc (.cells #[.int .u8 0, .int .u8 0, .int .u8 0, .int .u8 0, .int .i64 0] 55) := ⟨_, rfl⟩
          rw [← ewa] at HL0
          have HBa := WirS.hide (show Below wr.heap.size wr wa by rw [ewa]; exact Below.alloc (Below.refl _ _) (Nat.le_refl _) _)
          have HCa := WirS.hide (show Below w00.heap.size w00 wa by rw [ewa]; exact hBw.alloc hBw.size _)
          have EWA := WirS.hide ewa
          clear ewa hlt
          have hra : wa.rangeAt B1 o1 o.cells := fun j v hj => by rw [EWA.out]; exact ((Below.alloc (Below.refl wr.heap.size wr) (Nat.le_refl _) _).cell (p := ⟨B1, o1 + j, none⟩) hBl).trans (hr j v hj)
          have hrc : wa.rangeAt B2 o2 c.cells := fun j v hj => by rw [EWA.out]; exact ((Below.alloc (Below.refl wr.heap.size wr) (Nat.le_refl _) _).cell (p := ⟨B2, o2 + j, none⟩) hBl2).trans (hr2 j v hj)
          have HRA := WirS.hide hra
          have HRC := WirS.hide hrc
          have hba : B1 < wa.heap.size := by rw [EWA.out]; simp; omega
          have hbc : B2 < wa.heap.size := by rw [EWA.out]; simp; omega
          have HBAl := WirS.hide hba
          have HBCl := WirS.hide hbc
          have r0 : wa.cell? ⟨B1, o1, none⟩ = some (.int .u8 o.a) := hra 0 _ rfl
          have r1 : wa.cell? ⟨B1, o1 + 1, none⟩ = some (.int .u8 o.b) := hra 1 _ rfl
          have r2 : wa.cell? ⟨B1, o1 + 2, none⟩ = some (.int .u8 o.c) := hra 2 _ rfl
          have r3 : wa.cell? ⟨B1, o1 + 3, none⟩ = some (.int .u8 o.d) := hra 3 _ rfl
          have s0 : wa.cell? ⟨B2, o2, none⟩ = some (.int .u8 c.a) := hrc 0 _ rfl
          have s1 : wa.cell? ⟨B2, o2 + 1, none⟩ = some (.int .u8 c.b) := hrc 1 _ rfl
          have s2 : wa.cell? ⟨B2, o2 + 2, none⟩ = some (.int .u8 c.c) := hrc 2 _ rfl
          have s3 : wa.cell? ⟨B2, o2 + 3, none⟩ = some (.int .u8 c.d) := hrc 3 _ rfl
          have hne : B1 ≠ wr.heap.size := by omega
          have hne2 : B2 ≠ wr.heap.size := by omega
          clear hr hr2 hra hrc hV1 hV2 hN1 hN2 hn3 hn4 hba hbc
          have HC := WirS.hide (fun U => show Calls Tryz.prog 62 #[.agg #[.int .u8 o.a, .int .u8 o.b, .int .u8 o.c, .int .u8 o.d], .agg #[.int .u8 c.a, .int .u8 c.b, .int .u8 c.c, .int .u8 c.d]] U (fun e w' => e = .returned (.int .i64 (cmpR o.rk c.rk)) ∧ Below U.heap.size U w') from compare_any U o c hok hok2)
          have hK : cmpR o.rk c.rk < 0 := (cmpR_lt _ _).2 hlt
          clear hlt
          generalize cmpR o.rk c.rk = K at *
          go_upto_region 4 with fail
          rw [← EWA.out]
          go_region_held3 (fun w' => w'.cell? ⟨B1, o1, none⟩ = some (.int .u8 o.a) ∧ w'.cell? ⟨B1, o1 + 1, none⟩ = some (.int .u8 o.b) ∧ w'.cell? ⟨B1, o1 + 2, none⟩ = some (.int .u8 o.c) ∧ w'.cell? ⟨B1, o1 + 3, none⟩ = some (.int .u8 o.d) ∧ w'.cell? ⟨B2, o2, none⟩ = some (.int .u8 c.a) ∧ w'.cell? ⟨B2, o2 + 1, none⟩ = some (.int .u8 c.b) ∧ w'.cell? ⟨B2, o2 + 2, none⟩ = some (.int .u8 c.c) ∧ w'.cell? ⟨B2, o2 + 3, none⟩ = some (.int .u8 c.d)) (go_keep)
            (first | (go_at_call 62; refine (HC.out _).mono ?_; rintro e w1 ⟨rfl, hb⟩; have hb1 : Below wa.heap.size wa w1 := (below_drewN (Below.refl _ _) 1).trans hb; have h0 : w1.rangeAt B1 o1 o.cells := (fun j v hj => (hb1.cell (p := ⟨B1, o1 + j, none⟩) HBAl.out).trans (HRA.out j v hj)); have h1 : w1.rangeAt B2 o2 c.cells := (fun j v hj => (hb1.cell (p := ⟨B2, o2 + j, none⟩) HBCl.out).trans (HRC.out j v hj)); have t00 : w1.cell? ⟨B1, o1, none⟩ = some (.int .u8 o.a) := h0 0 _ rfl; have t01 : w1.cell? ⟨B1, o1 + 1, none⟩ = some (.int .u8 o.b) := h0 1 _ rfl; have t02 : w1.cell? ⟨B1, o1 + 2, none⟩ = some (.int .u8 o.c) := h0 2 _ rfl; have t03 : w1.cell? ⟨B1, o1 + 3, none⟩ = some (.int .u8 o.d) := h0 3 _ rfl; have t10 : w1.cell? ⟨B2, o2, none⟩ = some (.int .u8 c.a) := h1 0 _ rfl; have t11 : w1.cell? ⟨B2, o2 + 1, none⟩ = some (.int .u8 c.b) := h1 1 _ rfl; have t12 : w1.cell? ⟨B2, o2 + 2, none⟩ = some (.int .u8 c.c) := h1 2 _ rfl; have t13 : w1.cell? ⟨B2, o2 + 3, none⟩ = some (.int .u8 c.d) := h1 3 _ rfl; have HR1 := WirS.hide h0; have HR2 := WirS.hide h1; have HL2 := WirS.hide (HL0.out.below hb1 HL0.out.lt); have HB2 := WirS.hide (HBa.out.trans (hb1.mono HBa.out.size)); have HC2 := WirS.hide (HCa.out.trans (hb1.mono HCa.out.size)); clear hb hb1 h0 h1))
          go_upto_region 5 with fail
          have HL1 := HL2
          have HB1 := HB2
          have HC1 := HC2
          have hrb := HR1.out
          clear r0 r1 r2 r3 s0 s1 s2 s3 t00 t01 t02 t03 t10 t11 t12 t13
          have q0 : w1.cell? ⟨B1, o1, none⟩ = some (.int .u8 o.a) := hrb 0 _ rfl
          have q1 : w1.cell? ⟨B1, o1 + 1, none⟩ = some (.int .u8 o.b) := hrb 1 _ rfl
          have q2 : w1.cell? ⟨B1, o1 + 2, none⟩ = some (.int .u8 o.c) := hrb 2 _ rfl
          have q3 : w1.cell? ⟨B1, o1 + 3, none⟩ = some (.int .u8 o.d) := hrb 3 _ rfl
          have q4 : w1.cell? ⟨B1, o1 + 4, none⟩ = some (.int .i64 o.p) := hrb 4 _ rfl
          have l0 : w1.cell? ⟨wr.heap.size, 0, none⟩ = some (.int .u8 0) := HL1.out.cell 0
          have lf0 := HL1.out.frozen 0
          have l1 : w1.cell? ⟨wr.heap.size, 1, none⟩ = some (.int .u8 0) := HL1.out.cell 1
          have lf1 := HL1.out.frozen 1
          have l2 : w1.cell? ⟨wr.heap.size, 2, none⟩ = some (.int .u8 0) := HL1.out.cell 2
          have lf2 := HL1.out.frozen 2
          have l3 : w1.cell? ⟨wr.heap.size, 3, none⟩ = some (.int .u8 0) := HL1.out.cell 3
          have lf3 := HL1.out.frozen 3
          have l4 : w1.cell? ⟨wr.heap.size, 4, none⟩ = some (.int .i64 0) := HL1.out.cell 4
          have lf4 := HL1.out.frozen 4
          clear hrb
          go_region
          go_upto_region 8 with fail
          generalize hU : World.drew _ = U
          have hLU : At U wr.heap.size 55 o.cells := by rw [← hU]; exact put5 HL1.out o
          have hBU : Below wr.heap.size wr U := by rw [← hU]; exact (below5 HB1.out (Nat.le_refl _) _ _ _ _ _).drew
          have hCU : Below w00.heap.size w00 U := by rw [← hU]; exact (below5 HC1.out hBw.size _ _ _ _ _).drew
          have hJU := HJ.out _ _ _ hJp hBU
          obtain ⟨fn, tmps, assign, body, hy, hR⟩ := HY.out pre o U hJU HPre.out
          have y0 : U.cell? ⟨wr.heap.size, 0, none⟩ = some (.int .u8 o.a) := hLU.cell 0
          have y1 : U.cell? ⟨wr.heap.size, 1, none⟩ = some (.int .u8 o.b) := hLU.cell 1
          have y2 : U.cell? ⟨wr.heap.size, 2, none⟩ = some (.int .u8 o.c) := hLU.cell 2
          have y3 : U.cell? ⟨wr.heap.size, 3, none⟩ = some (.int .u8 o.d) := hLU.cell 3
          have y4 : U.cell? ⟨wr.heap.size, 4, none⟩ = some (.int .i64 o.p) := hLU.cell 4
          have hUs := hBU.size
          have HCU := WirS.hide hCU
          clear hU hLU hBU hJU hCU
          unfold encV at hy
          refine (wpIn_wide (n := n)).1 ?_
          gi_wp2_with fail
          refine ⟨fun h => by simp [Fence.wide] at h, hR.mono ?_⟩
          rintro e U' (⟨rfl, hJ2, hk, hkp⟩ | ⟨rfl, hJx2⟩)
          · have HK := WirS.hide hk
            have HKP := WirS.hide hkp
            clear hk hkp y0 y1 y2 y3 y4
            gi_wp2
            go_wp2_with fail
            go_roundw
            case rel => exact ⟨pre ++ [o], os', c :: cs', _, _, _, _, _, _, rfl, rfl, HN1.out, HV2.out, HE2, hJ2, HCU.out.trans HKP.out, Nat.le_trans hHw (Nat.le_trans hUs HK.out.1)⟩
            case measure => simp [sl]; have := HN3.out; omega
          · gi_wp2
            go_wp2_with fail
            first | go_end0 | refine bodyPost_ret (results_none rfl _ _ _) rfl ?_
            exact ⟨⟨_, rfl⟩, .inr ⟨_, HPre.out, hJx2⟩⟩
        · by_cases heq : o.rk = c.rk
          · have hpre : pre ++ [c] <+: M := ⟨mrg os' cs', by have := hE.out; rw [mrg_eq os' cs' heq] at this; rw [← this]; simp⟩
            have HE2 : Hid ((pre ++ [c]) ++ mrg os' cs' = M) := WirS.hide (by have := hE.out; rw [mrg_eq os' cs' heq] at this; rw [← this]; simp)
            have HPre := WirS.hide hpre
            clear hpre hE
            have hlt := Nat.lt_irrefl 0
            have HL0 := WirS.hide (show At (wr.alloc (.cells #[.int .u8 0, .int .u8 0, .int .u8 0, .int .u8 0, .int .i64 0] 55)) wr.heap.size 55 [.int .u8 0, .int .u8 0, .int .u8 0, .int .u8 0, .int .i64 0] from At.new wr _ _)
            obtain ⟨wa, ewa⟩ : ∃ wa, wa = wr.alloc (.cells #[.int .u8 0, .int .u8 0, .int .u8 0, .int .u8 0, .int .i64 0] 55) := ⟨_, rfl⟩
            rw [← ewa] at HL0
            have HBa := WirS.hide (show Below wr.heap.size wr wa by rw [ewa]; exact Below.alloc (Below.refl _ _) (Nat.le_refl _) _)
            have HCa := WirS.hide (show Below w00.heap.size w00 wa by rw [ewa]; exact hBw.alloc hBw.size _)
            have EWA := WirS.hide ewa
            clear ewa hlt
            have hra : wa.rangeAt B1 o1 o.cells := fun j v hj => by rw [EWA.out]; exact ((Below.alloc (Below.refl wr.heap.size wr) (Nat.le_refl _) _).cell (p := ⟨B1, o1 + j, none⟩) hBl).trans (hr j v hj)
            have hrc : wa.rangeAt B2 o2 c.cells := fun j v hj => by rw [EWA.out]; exact ((Below.alloc (Below.refl wr.heap.size wr) (Nat.le_refl _) _).cell (p := ⟨B2, o2 + j, none⟩) hBl2).trans (hr2 j v hj)
            have HRA := WirS.hide hra
            have HRC := WirS.hide hrc
            have hba : B1 < wa.heap.size := by rw [EWA.out]; simp; omega
            have hbc : B2 < wa.heap.size := by rw [EWA.out]; simp; omega
            have HBAl := WirS.hide hba
            have HBCl := WirS.hide hbc
            have r0 : wa.cell? ⟨B1, o1, none⟩ = some (.int .u8 o.a) := hra 0 _ rfl
            have r1 : wa.cell? ⟨B1, o1 + 1, none⟩ = some (.int .u8 o.b) := hra 1 _ rfl
            have r2 : wa.cell? ⟨B1, o1 + 2, none⟩ = some (.int .u8 o.c) := hra 2 _ rfl
            have r3 : wa.cell? ⟨B1, o1 + 3, none⟩ = some (.int .u8 o.d) := hra 3 _ rfl
            have s0 : wa.cell? ⟨B2, o2, none⟩ = some (.int .u8 c.a) := hrc 0 _ rfl
            have s1 : wa.cell? ⟨B2, o2 + 1, none⟩ = some (.int .u8 c.b) := hrc 1 _ rfl
            have s2 : wa.cell? ⟨B2, o2 + 2, none⟩ = some (.int .u8 c.c) := hrc 2 _ rfl
            have s3 : wa.cell? ⟨B2, o2 + 3, none⟩ = some (.int .u8 c.d) := hrc 3 _ rfl
            have hne : B1 ≠ wr.heap.size := by omega
            have hne2 : B2 ≠ wr.heap.size := by omega
            clear hr hr2 hra hrc hV1 hV2 hN1 hN2 hn3 hn4 hba hbc
            have HC := WirS.hide (fun U => show Calls Tryz.prog 62 #[.agg #[.int .u8 o.a, .int .u8 o.b, .int .u8 o.c, .int .u8 o.d], .agg #[.int .u8 c.a, .int .u8 c.b, .int .u8 c.c, .int .u8 c.d]] U (fun e w' => e = .returned (.int .i64 (cmpR o.rk c.rk)) ∧ Below U.heap.size U w') from compare_any U o c hok hok2)
            have hK : ¬ cmpR o.rk c.rk < 0 := fun h => by have := (cmpR_lt _ _).1 h; omega
            have hkey : o.key = c.key := by obtain ⟨e1, e2, e3, e4⟩ := Vd.key_eq hok hok2 heq; unfold Vd.key; rw [e1, e2, e3, e4]
            have hq := fun U => eqK4 o c U
            simp only [decide_eq_true hkey] at hq
            clear heq hkey
            generalize cmpR o.rk c.rk = K at *
            go_upto_region 4 with fail
            rw [← EWA.out]
            go_region_held3 (fun w' => w'.cell? ⟨B1, o1, none⟩ = some (.int .u8 o.a) ∧ w'.cell? ⟨B1, o1 + 1, none⟩ = some (.int .u8 o.b) ∧ w'.cell? ⟨B1, o1 + 2, none⟩ = some (.int .u8 o.c) ∧ w'.cell? ⟨B1, o1 + 3, none⟩ = some (.int .u8 o.d) ∧ w'.cell? ⟨B2, o2, none⟩ = some (.int .u8 c.a) ∧ w'.cell? ⟨B2, o2 + 1, none⟩ = some (.int .u8 c.b) ∧ w'.cell? ⟨B2, o2 + 2, none⟩ = some (.int .u8 c.c) ∧ w'.cell? ⟨B2, o2 + 3, none⟩ = some (.int .u8 c.d)) (go_keep)
              (first | (go_at_call 62; refine (HC.out _).mono ?_; rintro e w1 ⟨rfl, hb⟩; have hb1 : Below wa.heap.size wa w1 := (below_drewN (Below.refl _ _) 1).trans hb; have h0 : w1.rangeAt B1 o1 o.cells := (fun j v hj => (hb1.cell (p := ⟨B1, o1 + j, none⟩) HBAl.out).trans (HRA.out j v hj)); have h1 : w1.rangeAt B2 o2 c.cells := (fun j v hj => (hb1.cell (p := ⟨B2, o2 + j, none⟩) HBCl.out).trans (HRC.out j v hj)); have t00 : w1.cell? ⟨B1, o1, none⟩ = some (.int .u8 o.a) := h0 0 _ rfl; have t01 : w1.cell? ⟨B1, o1 + 1, none⟩ = some (.int .u8 o.b) := h0 1 _ rfl; have t02 : w1.cell? ⟨B1, o1 + 2, none⟩ = some (.int .u8 o.c) := h0 2 _ rfl; have t03 : w1.cell? ⟨B1, o1 + 3, none⟩ = some (.int .u8 o.d) := h0 3 _ rfl; have t10 : w1.cell? ⟨B2, o2, none⟩ = some (.int .u8 c.a) := h1 0 _ rfl; have t11 : w1.cell? ⟨B2, o2 + 1, none⟩ = some (.int .u8 c.b) := h1 1 _ rfl; have t12 : w1.cell? ⟨B2, o2 + 2, none⟩ = some (.int .u8 c.c) := h1 2 _ rfl; have t13 : w1.cell? ⟨B2, o2 + 3, none⟩ = some (.int .u8 c.d) := h1 3 _ rfl; have HR1 := WirS.hide h0; have HR2 := WirS.hide h1; have HL2 := WirS.hide (HL0.out.below hb1 HL0.out.lt); have HB2 := WirS.hide (HBa.out.trans (hb1.mono HBa.out.size)); have HC2 := WirS.hide (HCa.out.trans (hb1.mono HCa.out.size)); clear hb hb1 h0 h1))
            clear r0 r1 r2 r3 s0 s1 s2 s3
            go_upto_region 6 with fail
            go_quiet (fail)
            go_upto_region 7 with fail
            generalize hW : World.drewN w1 _ = W1
            have HL1 := WirS.hide (show At W1 wr.heap.size 55 [.int .u8 0, .int .u8 0, .int .u8 0, .int .u8 0, .int .i64 0] by rw [← hW]; exact HL2.out)
            have HB1 := WirS.hide (show Below wr.heap.size wr W1 by rw [← hW]; first | exact below_drewN (below_drewN HB2.out _) _ | exact below_drewN HB2.out _)
            have HC1 := WirS.hide (show Below w00.heap.size w00 W1 by rw [← hW]; first | exact below_drewN (below_drewN HC2.out _) _ | exact below_drewN HC2.out _)
            have hrb : W1.rangeAt B2 o2 c.cells := by rw [← hW]; exact HR2.out
            clear hW t00 t01 t02 t03 t10 t11 t12 t13 hq
            have q0 : W1.cell? ⟨B2, o2, none⟩ = some (.int .u8 c.a) := hrb 0 _ rfl
            have q1 : W1.cell? ⟨B2, o2 + 1, none⟩ = some (.int .u8 c.b) := hrb 1 _ rfl
            have q2 : W1.cell? ⟨B2, o2 + 2, none⟩ = some (.int .u8 c.c) := hrb 2 _ rfl
            have q3 : W1.cell? ⟨B2, o2 + 3, none⟩ = some (.int .u8 c.d) := hrb 3 _ rfl
            have q4 : W1.cell? ⟨B2, o2 + 4, none⟩ = some (.int .i64 c.p) := hrb 4 _ rfl
            have l0 : W1.cell? ⟨wr.heap.size, 0, none⟩ = some (.int .u8 0) := HL1.out.cell 0
            have lf0 := HL1.out.frozen 0
            have l1 : W1.cell? ⟨wr.heap.size, 1, none⟩ = some (.int .u8 0) := HL1.out.cell 1
            have lf1 := HL1.out.frozen 1
            have l2 : W1.cell? ⟨wr.heap.size, 2, none⟩ = some (.int .u8 0) := HL1.out.cell 2
            have lf2 := HL1.out.frozen 2
            have l3 : W1.cell? ⟨wr.heap.size, 3, none⟩ = some (.int .u8 0) := HL1.out.cell 3
            have lf3 := HL1.out.frozen 3
            have l4 : W1.cell? ⟨wr.heap.size, 4, none⟩ = some (.int .i64 0) := HL1.out.cell 4
            have lf4 := HL1.out.frozen 4
            clear hrb
            go_region
            go_upto_region 8 with fail
            generalize hU : World.drew _ = U
            have hLU : At U wr.heap.size 55 c.cells := by rw [← hU]; exact put5 HL1.out c
            have hBU : Below wr.heap.size wr U := by rw [← hU]; exact (below5 HB1.out (Nat.le_refl _) _ _ _ _ _).drew
            have hCU : Below w00.heap.size w00 U := by rw [← hU]; exact (below5 HC1.out hBw.size _ _ _ _ _).drew
            have hJU := HJ.out _ _ _ hJp hBU
            obtain ⟨fn, tmps, assign, body, hy, hR⟩ := HY.out pre c U hJU HPre.out
            have y0 : U.cell? ⟨wr.heap.size, 0, none⟩ = some (.int .u8 c.a) := hLU.cell 0
            have y1 : U.cell? ⟨wr.heap.size, 1, none⟩ = some (.int .u8 c.b) := hLU.cell 1
            have y2 : U.cell? ⟨wr.heap.size, 2, none⟩ = some (.int .u8 c.c) := hLU.cell 2
            have y3 : U.cell? ⟨wr.heap.size, 3, none⟩ = some (.int .u8 c.d) := hLU.cell 3
            have y4 : U.cell? ⟨wr.heap.size, 4, none⟩ = some (.int .i64 c.p) := hLU.cell 4
            have hUs := hBU.size
            have HCU := WirS.hide hCU
            clear hU hLU hBU hJU hCU
            unfold encV at hy
            refine (wpIn_wide (n := n)).1 ?_
            gi_wp2_with fail
            refine ⟨fun h => by simp [Fence.wide] at h, hR.mono ?_⟩
            rintro e U' (⟨rfl, hJ2, hk, hkp⟩ | ⟨rfl, hJx2⟩)
            · have HK := WirS.hide hk
              have HKP := WirS.hide hkp
              clear hk hkp y0 y1 y2 y3 y4
              gi_wp2
              go_wp2_with fail
              go_roundw
              case rel => exact ⟨pre ++ [c], os', cs', _, _, _, _, _, _, rfl, rfl, HN1.out, HN2.out, HE2, hJ2, HCU.out.trans HKP.out, Nat.le_trans hHw (Nat.le_trans hUs HK.out.1)⟩
              case measure => simp [sl]; have := HN3.out; have := HN4.out; omega
            · gi_wp2
              go_wp2_with fail
              first | go_end0 | refine bodyPost_ret (results_none rfl _ _ _) rfl ?_
              exact ⟨⟨_, rfl⟩, .inr ⟨_, HPre.out, hJx2⟩⟩
          · have hgt : c.rk < o.rk := by omega
            clear hlt heq
            have hpre : pre ++ [c] <+: M := ⟨mrg (o :: os') cs', by have := hE.out; rw [mrg_gt os' cs' hgt] at this; rw [← this]; simp⟩
            have HE2 : Hid ((pre ++ [c]) ++ mrg (o :: os') cs' = M) := WirS.hide (by have := hE.out; rw [mrg_gt os' cs' hgt] at this; rw [← this]; simp)
            have HPre := WirS.hide hpre
            clear hpre hE
            have hlt := Nat.lt_irrefl 0
            have HL0 := WirS.hide (show At (wr.alloc (.cells #[.int .u8 0, .int .u8 0, .int .u8 0, .int .u8 0, .int .i64 0] 55)) wr.heap.size 55 [.int .u8 0, .int .u8 0, .int .u8 0, .int .u8 0, .int .i64 0] from At.new wr _ _)
            obtain ⟨wa, ewa⟩ : ∃ wa, wa = wr.alloc (.cells #[.int .u8 0, .int .u8 0, .int .u8 0, .int .u8 0, .int .i64 0] 55) := ⟨_, rfl⟩
            rw [← ewa] at HL0
            have HBa := WirS.hide (show Below wr.heap.size wr wa by rw [ewa]; exact Below.alloc (Below.refl _ _) (Nat.le_refl _) _)
            have HCa := WirS.hide (show Below w00.heap.size w00 wa by rw [ewa]; exact hBw.alloc hBw.size _)
            have EWA := WirS.hide ewa
            clear ewa hlt
            have hra : wa.rangeAt B1 o1 o.cells := fun j v hj => by rw [EWA.out]; exact ((Below.alloc (Below.refl wr.heap.size wr) (Nat.le_refl _) _).cell (p := ⟨B1, o1 + j, none⟩) hBl).trans (hr j v hj)
            have hrc : wa.rangeAt B2 o2 c.cells := fun j v hj => by rw [EWA.out]; exact ((Below.alloc (Below.refl wr.heap.size wr) (Nat.le_refl _) _).cell (p := ⟨B2, o2 + j, none⟩) hBl2).trans (hr2 j v hj)
            have HRA := WirS.hide hra
            have HRC := WirS.hide hrc
            have hba : B1 < wa.heap.size := by rw [EWA.out]; simp; omega
            have hbc : B2 < wa.heap.size := by rw [EWA.out]; simp; omega
            have HBAl := WirS.hide hba
            have HBCl := WirS.hide hbc
            have r0 : wa.cell? ⟨B1, o1, none⟩ = some (.int .u8 o.a) := hra 0 _ rfl
            have r1 : wa.cell? ⟨B1, o1 + 1, none⟩ = some (.int .u8 o.b) := hra 1 _ rfl
            have r2 : wa.cell? ⟨B1, o1 + 2, none⟩ = some (.int .u8 o.c) := hra 2 _ rfl
            have r3 : wa.cell? ⟨B1, o1 + 3, none⟩ = some (.int .u8 o.d) := hra 3 _ rfl
            have s0 : wa.cell? ⟨B2, o2, none⟩ = some (.int .u8 c.a) := hrc 0 _ rfl
            have s1 : wa.cell? ⟨B2, o2 + 1, none⟩ = some (.int .u8 c.b) := hrc 1 _ rfl
            have s2 : wa.cell? ⟨B2, o2 + 2, none⟩ = some (.int .u8 c.c) := hrc 2 _ rfl
            have s3 : wa.cell? ⟨B2, o2 + 3, none⟩ = some (.int .u8 c.d) := hrc 3 _ rfl
            have hne : B1 ≠ wr.heap.size := by omega
            have hne2 : B2 ≠ wr.heap.size := by omega
            clear hr hr2 hra hrc hV1 hV2 hN1 hN2 hn3 hn4 hba hbc
            have HC := WirS.hide (fun U => show Calls Tryz.prog 62 #[.agg #[.int .u8 o.a, .int .u8 o.b, .int .u8 o.c, .int .u8 o.d], .agg #[.int .u8 c.a, .int .u8 c.b, .int .u8 c.c, .int .u8 c.d]] U (fun e w' => e = .returned (.int .i64 (cmpR o.rk c.rk)) ∧ Below U.heap.size U w') from compare_any U o c hok hok2)
            have hK : ¬ cmpR o.rk c.rk < 0 := fun h => by have := (cmpR_lt _ _).1 h; omega
            have hkey : ¬ o.key = c.key := fun e => by unfold Vd.key at e; simp only [List.cons.injEq, and_true] at e; unfold Vd.rk at hgt; omega
            have hq := fun U => eqK4 o c U
            simp only [decide_eq_false hkey] at hq
            clear hgt hkey
            generalize cmpR o.rk c.rk = K at *
            go_upto_region 4 with fail
            rw [← EWA.out]
            go_region_held3 (fun w' => w'.cell? ⟨B1, o1, none⟩ = some (.int .u8 o.a) ∧ w'.cell? ⟨B1, o1 + 1, none⟩ = some (.int .u8 o.b) ∧ w'.cell? ⟨B1, o1 + 2, none⟩ = some (.int .u8 o.c) ∧ w'.cell? ⟨B1, o1 + 3, none⟩ = some (.int .u8 o.d) ∧ w'.cell? ⟨B2, o2, none⟩ = some (.int .u8 c.a) ∧ w'.cell? ⟨B2, o2 + 1, none⟩ = some (.int .u8 c.b) ∧ w'.cell? ⟨B2, o2 + 2, none⟩ = some (.int .u8 c.c) ∧ w'.cell? ⟨B2, o2 + 3, none⟩ = some (.int .u8 c.d)) (go_keep)
              (first | (go_at_call 62; refine (HC.out _).mono ?_; rintro e w1 ⟨rfl, hb⟩; have hb1 : Below wa.heap.size wa w1 := (below_drewN (Below.refl _ _) 1).trans hb; have h0 : w1.rangeAt B1 o1 o.cells := (fun j v hj => (hb1.cell (p := ⟨B1, o1 + j, none⟩) HBAl.out).trans (HRA.out j v hj)); have h1 : w1.rangeAt B2 o2 c.cells := (fun j v hj => (hb1.cell (p := ⟨B2, o2 + j, none⟩) HBCl.out).trans (HRC.out j v hj)); have t00 : w1.cell? ⟨B1, o1, none⟩ = some (.int .u8 o.a) := h0 0 _ rfl; have t01 : w1.cell? ⟨B1, o1 + 1, none⟩ = some (.int .u8 o.b) := h0 1 _ rfl; have t02 : w1.cell? ⟨B1, o1 + 2, none⟩ = some (.int .u8 o.c) := h0 2 _ rfl; have t03 : w1.cell? ⟨B1, o1 + 3, none⟩ = some (.int .u8 o.d) := h0 3 _ rfl; have t10 : w1.cell? ⟨B2, o2, none⟩ = some (.int .u8 c.a) := h1 0 _ rfl; have t11 : w1.cell? ⟨B2, o2 + 1, none⟩ = some (.int .u8 c.b) := h1 1 _ rfl; have t12 : w1.cell? ⟨B2, o2 + 2, none⟩ = some (.int .u8 c.c) := h1 2 _ rfl; have t13 : w1.cell? ⟨B2, o2 + 3, none⟩ = some (.int .u8 c.d) := h1 3 _ rfl; have HR1 := WirS.hide h0; have HR2 := WirS.hide h1; have HL2 := WirS.hide (HL0.out.below hb1 HL0.out.lt); have HB2 := WirS.hide (HBa.out.trans (hb1.mono HBa.out.size)); have HC2 := WirS.hide (HCa.out.trans (hb1.mono HCa.out.size)); clear hb hb1 h0 h1))
            clear r0 r1 r2 r3 s0 s1 s2 s3
            go_upto_region 6 with fail
            go_quiet (fail)
            go_upto_region 3 with fail
            generalize hW : World.drewN w1 _ = W1
            have HL1 := WirS.hide (show At W1 wr.heap.size 55 [.int .u8 0, .int .u8 0, .int .u8 0, .int .u8 0, .int .i64 0] by rw [← hW]; exact HL2.out)
            have HB1 := WirS.hide (show Below wr.heap.size wr W1 by rw [← hW]; first | exact below_drewN (below_drewN HB2.out _) _ | exact below_drewN HB2.out _)
            have HC1 := WirS.hide (show Below w00.heap.size w00 W1 by rw [← hW]; first | exact below_drewN (below_drewN HC2.out _) _ | exact below_drewN HC2.out _)
            have hrb : W1.rangeAt B2 o2 c.cells := by rw [← hW]; exact HR2.out
            clear hW t00 t01 t02 t03 t10 t11 t12 t13 hq
            have q0 : W1.cell? ⟨B2, o2, none⟩ = some (.int .u8 c.a) := hrb 0 _ rfl
            have q1 : W1.cell? ⟨B2, o2 + 1, none⟩ = some (.int .u8 c.b) := hrb 1 _ rfl
            have q2 : W1.cell? ⟨B2, o2 + 2, none⟩ = some (.int .u8 c.c) := hrb 2 _ rfl
            have q3 : W1.cell? ⟨B2, o2 + 3, none⟩ = some (.int .u8 c.d) := hrb 3 _ rfl
            have q4 : W1.cell? ⟨B2, o2 + 4, none⟩ = some (.int .i64 c.p) := hrb 4 _ rfl
            have l0 : W1.cell? ⟨wr.heap.size, 0, none⟩ = some (.int .u8 0) := HL1.out.cell 0
            have lf0 := HL1.out.frozen 0
            have l1 : W1.cell? ⟨wr.heap.size, 1, none⟩ = some (.int .u8 0) := HL1.out.cell 1
            have lf1 := HL1.out.frozen 1
            have l2 : W1.cell? ⟨wr.heap.size, 2, none⟩ = some (.int .u8 0) := HL1.out.cell 2
            have lf2 := HL1.out.frozen 2
            have l3 : W1.cell? ⟨wr.heap.size, 3, none⟩ = some (.int .u8 0) := HL1.out.cell 3
            have lf3 := HL1.out.frozen 3
            have l4 : W1.cell? ⟨wr.heap.size, 4, none⟩ = some (.int .i64 0) := HL1.out.cell 4
            have lf4 := HL1.out.frozen 4
            clear hrb
            go_region
            go_upto_region 8 with fail
            generalize hU : World.drew _ = U
            have hLU : At U wr.heap.size 55 c.cells := by rw [← hU]; exact put5 HL1.out c
            have hBU : Below wr.heap.size wr U := by rw [← hU]; exact (below5 HB1.out (Nat.le_refl _) _ _ _ _ _).drew
            have hCU : Below w00.heap.size w00 U := by rw [← hU]; exact (below5 HC1.out hBw.size _ _ _ _ _).drew
            have hJU := HJ.out _ _ _ hJp hBU
            obtain ⟨fn, tmps, assign, body, hy, hR⟩ := HY.out pre c U hJU HPre.out
            have y0 : U.cell? ⟨wr.heap.size, 0, none⟩ = some (.int .u8 c.a) := hLU.cell 0
            have y1 : U.cell? ⟨wr.heap.size, 1, none⟩ = some (.int .u8 c.b) := hLU.cell 1
            have y2 : U.cell? ⟨wr.heap.size, 2, none⟩ = some (.int .u8 c.c) := hLU.cell 2
            have y3 : U.cell? ⟨wr.heap.size, 3, none⟩ = some (.int .u8 c.d) := hLU.cell 3
            have y4 : U.cell? ⟨wr.heap.size, 4, none⟩ = some (.int .i64 c.p) := hLU.cell 4
            have hUs := hBU.size
            have HCU := WirS.hide hCU
            clear hU hLU hBU hJU hCU
            unfold encV at hy
            refine (wpIn_wide (n := n)).1 ?_
            gi_wp2_with fail
            refine ⟨fun h => by simp [Fence.wide] at h, hR.mono ?_⟩
            rintro e U' (⟨rfl, hJ2, hk, hkp⟩ | ⟨rfl, hJx2⟩)
            · have HK := WirS.hide hk
              have HKP := WirS.hide hkp
              clear hk hkp y0 y1 y2 y3 y4
              gi_wp2
              go_wp2_with fail
              go_roundw
              case rel => exact ⟨pre ++ [c], o :: os', cs', _, _, _, _, _, _, rfl, rfl, HV1.out, HN2.out, HE2, hJ2, HCU.out.trans HKP.out, Nat.le_trans hHw (Nat.le_trans hUs HK.out.1)⟩
              case measure => simp [sl]; have := HN4.out; omega
            · gi_wp2
              go_wp2_with fail
              first | go_end0 | refine bodyPost_ret (results_none rfl _ _ _) rfl ?_
              exact ⟨⟨_, rfl⟩, .inr ⟨_, HPre.out, hJx2⟩⟩
end ValO
end Go.Proofs.YtpambhlhkmkagaaGreatDoor
