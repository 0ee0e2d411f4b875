/-
  ValO, ValQ, ValR, in one text.
-/
import Derived.Test.YtackcnncjeajpaaVal1
import Derived.Test.YtackcnncjeajpaaSeq2
import Derived.OneCell
import Derived.OwnWalkIn
import Derived.TacticsInMore
namespace Go.Proofs.Ytackcnncjeajpaa
namespace ValO
open Go.RowKit
open BlkM WirM WirS WirA WirB ValA ValB ValC ValD ValE ValH ValP ValM ValN
open Go.Proofs.Ytackcnncjeajpaa.Seq2
attribute [local go_sem] Oper.semAt_some

def sl : Value → Nat
  | .slice _ n _ => n
  | _ => 0
/-- What stands at the head of a round of the iterator. -/
def Rnd (w00 : World) (H : Nat) (M : List Vd) (J : List Vd → World → Prop) (o c : Value) (U : World) : Prop :=
  ∃ (pre os cs : List Vd) (a : Option Addr) (n k : Nat) (a' : Option Addr) (n' k' : Nat), o = .slice a n k ∧ c = .slice a' n' k' ∧ VIn w00 a n k os ∧ VIn w00 a' n' k' cs ∧ Hid (pre ++ mrg os cs = M) ∧ J pre U ∧ Below w00.heap.size w00 U ∧ H ≤ U.heap.size
/-- The value of a validator, as yield takes it. -/
def encV (x : Vd) : Array Value := #[.agg #[.int .u8 x.a, .int .u8 x.b, .int .u8 x.c, .int .u8 x.d, .int .i64 x.p]]
theorem put5 {w : World} {L : Nat} {T : TypeId} {c0 c1 c2 c3 c4 : Value} (h : At w L T [c0, c1, c2, c3, c4]) (x : Vd) : At (((((w.setCell ⟨L, 0, none⟩ (.int .u8 x.a)).setCell ⟨L, 1, none⟩ (.int .u8 x.b)).setCell ⟨L, 2, none⟩ (.int .u8 x.c)).setCell ⟨L, 3, none⟩ (.int .u8 x.d)).setCell ⟨L, 4, none⟩ (.int .i64 x.p)) L T x.cells :=
  ((((h.setCell 0 _).setCell 1 _).setCell 2 _).setCell 3 _).setCell 4 _
theorem below5 {w0 w : World} {H L : Nat} (h : Below H w0 w) (hL : H ≤ L) (x0 x1 x2 x3 x4 : Value) : Below H w0 (((((w.setCell ⟨L, 0, none⟩ x0).setCell ⟨L, 1, none⟩ x1).setCell ⟨L, 2, none⟩ x2).setCell ⟨L, 3, none⟩ x3).setCell ⟨L, 4, none⟩ x4) :=
  ((((h.setCell (p := ⟨L, 0, none⟩) hL _).setCell (p := ⟨L, 1, none⟩) hL _).setCell (p := ⟨L, 2, none⟩) hL _).setCell (p := ⟨L, 3, none⟩) hL _).setCell (p := ⟨L, 4, none⟩) hL _
set_option maxRecDepth 10000 in
set_option maxHeartbeats 20000000 in
theorem merge_gives (n : Nat) (w00 w0 : World) (hb0 : Below w00.heap.size w00 w0) (A B : Nat) (a1 a2 : Option Addr) (n1 k1 n2 k2 : Nat) (vs ch : List Vd) (h1 : VIn w00 a1 n1 k1 vs) (h2 : VIn w00 a2 n2 k2 ch)
    (hA : At w0 A 80 [.slice a1 n1 k1]) (hB : At w0 B 80 [.slice a2 n2 k2]) :
    Gives n Try.prog 188 #[.pointer (some ⟨A, 0, none⟩), .pointer (some ⟨B, 0, none⟩)] encV (Below w00.heap.size) (fun xs => xs = mrg vs ch) (fun xs => xs <+: mrg vs ch) w0 := by
  intro l J Jx W hBW hJ hY h0
  have hA1 := hA.below hBW hA.lt
  have hB1 := hB.below hBW hB.lt
  have cA : W.cell? ⟨A, 0, none⟩ = some (.slice a1 n1 k1) := hA1.cell 0
  have cB : W.cell? ⟨B, 0, none⟩ = some (.slice a2 n2 k2) := hB1.cell 0
  have hbW : Below w00.heap.size w00 W := hb0.trans (hBW.mono hb0.size)
  obtain ⟨M, hM⟩ : ∃ M, M = mrg vs ch := ⟨_, rfl⟩
  rw [← hM] at hY ⊢
  have hst : ∀ q, Rnd w00 W.heap.size M J (.slice a1 n1 k1) (.slice a2 n2 k2) (W.drewN q) := fun q => ⟨[], vs, ch, a1, n1, k1, a2, n2, k2, rfl, rfl, h1, h2, WirS.hide (by rw [hM]; rfl), hJ _ _ _ h0 (below_drewN (Below.refl _ _) q), below_drewN hbW q, Nat.le_refl _⟩
  have HST := WirS.hide hst
  have HJ := WirS.hide hJ
  have HY := WirS.hide hY
  have HM := WirS.hide hM
  clear hJ hY hM hst h0 hA hB hA1 hB1 h1 h2 hBW
  refine callsIn_wide.2 ?_
  change Calls Try.prog 188 #[.func (.yield l) #[] #[], .pointer (some ⟨A, 0, none⟩), .pointer (some ⟨B, 0, none⟩)] W _
  go_enter Try.func188, Try.ntmps188
  go_upto_region 0 with fail
  go_quiet (fail)
  go_wp2_with fail
  go_loopw [4, 5] (fun o c wr => Rnd w00 W.heap.size M J o c wr) (fun o c _ => sl o + sl c)
  case atStart => exact HST.out _
  case round =>
    clear HST cA cB
    obtain ⟨pre, os, cs, a, n3, k3, a', n4, k4, rfl, rfl, hV1, hV2, hE, hJp, hBw, hHw⟩ := hrel
    by_cases hos : os = []
    · by_cases hcs : cs = []
      · subst hos
        subst hcs
        have l1 := hV1.len
        have l2 := hV2.len
        obtain rfl : n3 = 0 := by simpa using l1.symm
        obtain rfl : n4 = 0 := by simpa using l2.symm
        have hall : pre = M := by have := hE.out; rw [mrg_nil_left] at this; simpa using this
        have HA := WirS.hide hall
        clear hall hE l1 l2 hV1 hV2
        go_wp2_with fail
        go_end0
        exact ⟨⟨_, rfl⟩, .inl ⟨_, HA.out, hJp⟩⟩
      · -- only changes are left
        subst hos
        obtain ⟨c, cs', rfl⟩ : ∃ c l, cs = c :: l := by cases cs with | nil => exact absurd rfl hcs | cons c l => exact ⟨c, l, rfl⟩
        have l1 := hV1.len
        have hn3 : n3 = 0 := by simpa using l1.symm
        obtain ⟨B2, o2, m2, rfl, hn4, hBl, hr, hok⟩ := VIn.head (hV2.below hBw)
        obtain ⟨at2, ct2, hsl, hN2⟩ := cut_one (show VIn w00 (some ⟨B2, o2, none⟩) (m2 + 1) k4 (c :: cs') by rw [← hn4]; exact hV2)
        rw [← hn4] at hsl
        have HN1 := WirS.hide hV1
        have HN2 := WirS.hide hN2
        have g1 : decide ((0 : Int) < (n3 : Int)) = false := by rw [hn3]; rfl
        have g2 : ((n4 : Int) == 0) = false := by simp; omega
        have g3 : (0 : Int) < (n4 : Int) := by omega
        have HN3 := WirS.hide hn3
        have HN4 := WirS.hide hn4
        have hpre : pre ++ [c] <+: M := ⟨mrg [] cs', by have := hE.out; rw [show mrg [] (c :: cs') = c :: mrg [] cs' by rw [mrg_nil_left, mrg_nil_left]] at this; rw [← this]; simp⟩
        have HE2 : Hid ((pre ++ [c]) ++ mrg [] cs' = M) := WirS.hide (by have := hE.out; rw [show mrg [] (c :: cs') = c :: mrg [] cs' by rw [mrg_nil_left, mrg_nil_left]] at this; rw [← this]; simp)
        have HPre := WirS.hide hpre
        clear hpre hE
        have hlt := Nat.lt_irrefl 0
        have HL0 := WirS.hide (show At (wr.alloc (.cells #[.int .u8 0, .int .u8 0, .int .u8 0, .int .u8 0, .int .i64 0] 100)) wr.heap.size 100 [.int .u8 0, .int .u8 0, .int .u8 0, .int .u8 0, .int .i64 0] from At.new wr _ _)
        obtain ⟨wa, ewa⟩ : ∃ wa, wa = wr.alloc (.cells #[.int .u8 0, .int .u8 0, .int .u8 0, .int .u8 0, .int .i64 0] 100) := ⟨_, rfl⟩
        rw [← ewa] at HL0
        have HBa := WirS.hide (show Below wr.heap.size wr wa by rw [ewa]; exact Below.alloc (Below.refl _ _) (Nat.le_refl _) _)
        have HCa := WirS.hide (show Below w00.heap.size w00 wa by rw [ewa]; exact hBw.alloc hBw.size _)
        have EWA := WirS.hide ewa
        clear ewa hlt
        have hra : wa.rangeAt B2 o2 c.cells := fun j v hj => by rw [EWA.out]; exact ((Below.alloc (Below.refl wr.heap.size wr) (Nat.le_refl _) _).cell (p := ⟨B2, o2 + j, none⟩) hBl).trans (hr j v hj)
        have HRA := WirS.hide hra
        have r0 : wa.cell? ⟨B2, o2, none⟩ = some (.int .u8 c.a) := hra 0 _ rfl
        have r1 : wa.cell? ⟨B2, o2 + 1, none⟩ = some (.int .u8 c.b) := hra 1 _ rfl
        have r2 : wa.cell? ⟨B2, o2 + 2, none⟩ = some (.int .u8 c.c) := hra 2 _ rfl
        have r3 : wa.cell? ⟨B2, o2 + 3, none⟩ = some (.int .u8 c.d) := hra 3 _ rfl
        have r4 : wa.cell? ⟨B2, o2 + 4, none⟩ = some (.int .i64 c.p) := hra 4 _ rfl
        have hne : B2 ≠ wr.heap.size := by omega
        rw [HN3.out] at HN1
        clear hr hra hcs l1 hV1 hV2 hN2 hn3 hn4
        go_upto_region 4 with fail
        rw [← EWA.out]
        go_quiet (fail)
        go_upto_region 6 with fail
        go_quiet (fail)
        go_upto_region 3 with fail
        generalize hW : World.drewN (World.drewN wa _) _ = W1
        have HL1 := WirS.hide (show At W1 wr.heap.size 100 [.int .u8 0, .int .u8 0, .int .u8 0, .int .u8 0, .int .i64 0] by rw [← hW]; exact HL0.out)
        have HB1 := WirS.hide (show Below wr.heap.size wr W1 by rw [← hW]; first | exact below_drewN (below_drewN HBa.out _) _ | exact below_drewN HBa.out _)
        have HC1 := WirS.hide (show Below w00.heap.size w00 W1 by rw [← hW]; first | exact below_drewN (below_drewN HCa.out _) _ | exact below_drewN HCa.out _)
        have hrb : W1.rangeAt B2 o2 c.cells := by rw [← hW]; exact HRA.out
        clear hW r0 r1 r2 r3 r4
        have q0 : W1.cell? ⟨B2, o2, none⟩ = some (.int .u8 c.a) := hrb 0 _ rfl
        have q1 : W1.cell? ⟨B2, o2 + 1, none⟩ = some (.int .u8 c.b) := hrb 1 _ rfl
        have q2 : W1.cell? ⟨B2, o2 + 2, none⟩ = some (.int .u8 c.c) := hrb 2 _ rfl
        have q3 : W1.cell? ⟨B2, o2 + 3, none⟩ = some (.int .u8 c.d) := hrb 3 _ rfl
        have q4 : W1.cell? ⟨B2, o2 + 4, none⟩ = some (.int .i64 c.p) := hrb 4 _ rfl
        have l0 : W1.cell? ⟨wr.heap.size, 0, none⟩ = some (.int .u8 0) := HL1.out.cell 0
        have lf0 := HL1.out.frozen 0
        have l1 : W1.cell? ⟨wr.heap.size, 1, none⟩ = some (.int .u8 0) := HL1.out.cell 1
        have lf1 := HL1.out.frozen 1
        have l2 : W1.cell? ⟨wr.heap.size, 2, none⟩ = some (.int .u8 0) := HL1.out.cell 2
        have lf2 := HL1.out.frozen 2
        have l3 : W1.cell? ⟨wr.heap.size, 3, none⟩ = some (.int .u8 0) := HL1.out.cell 3
        have lf3 := HL1.out.frozen 3
        have l4 : W1.cell? ⟨wr.heap.size, 4, none⟩ = some (.int .i64 0) := HL1.out.cell 4
        have lf4 := HL1.out.frozen 4
        clear hrb
        go_region
        go_upto_region 8 with fail
        generalize hU : World.drew _ = U
        have hLU : At U wr.heap.size 100 c.cells := by rw [← hU]; exact put5 HL1.out c
        have hBU : Below wr.heap.size wr U := by rw [← hU]; exact (below5 HB1.out (Nat.le_refl _) _ _ _ _ _).drew
        have hCU : Below w00.heap.size w00 U := by rw [← hU]; exact (below5 HC1.out hBw.size _ _ _ _ _).drew
        have hJU := HJ.out _ _ _ hJp hBU
        obtain ⟨fn, tmps, assign, body, hy, hR⟩ := HY.out pre c U hJU HPre.out
        have y0 : U.cell? ⟨wr.heap.size, 0, none⟩ = some (.int .u8 c.a) := hLU.cell 0
        have y1 : U.cell? ⟨wr.heap.size, 1, none⟩ = some (.int .u8 c.b) := hLU.cell 1
        have y2 : U.cell? ⟨wr.heap.size, 2, none⟩ = some (.int .u8 c.c) := hLU.cell 2
        have y3 : U.cell? ⟨wr.heap.size, 3, none⟩ = some (.int .u8 c.d) := hLU.cell 3
        have y4 : U.cell? ⟨wr.heap.size, 4, none⟩ = some (.int .i64 c.p) := hLU.cell 4
        have hUs := hBU.size
        have HCU := WirS.hide hCU
        clear hU hLU hBU hJU hCU
        unfold encV at hy
        refine (wpIn_wide (n := n)).1 ?_
        gi_wp2_with fail
        refine ⟨fun h => by simp [Fence.wide] at h, hR.mono ?_⟩
        rintro e U' (⟨rfl, hJ2, hk, hkp⟩ | ⟨rfl, hJx2⟩)
        · have HK := WirS.hide hk
          have HKP := WirS.hide hkp
          clear hk hkp y0 y1 y2 y3 y4
          gi_wp2
          go_wp2_with fail
          go_roundw
          case rel => exact ⟨pre ++ [c], [], cs', _, _, _, _, _, _, rfl, rfl, HN1.out, HN2.out, HE2, hJ2, HCU.out.trans HKP.out, Nat.le_trans hHw (Nat.le_trans hUs HK.out.1)⟩
          case measure => simp [sl]; have := HN4.out; omega
        · gi_wp2
          go_wp2_with fail
          first | go_end0 | refine bodyPost_ret (results_none rfl _ _ _) rfl ?_
          exact ⟨⟨_, rfl⟩, .inr ⟨_, HPre.out, hJx2⟩⟩
    · obtain ⟨o, os', rfl⟩ : ∃ o l, os = o :: l := by cases os with | nil => exact absurd rfl hos | cons o l => exact ⟨o, l, rfl⟩
      clear hos
      by_cases hcs : cs = []
      · subst hcs
        have l2 := hV2.len
        obtain rfl : n4 = 0 := by simpa using l2.symm
        obtain ⟨B1, o1, m1, rfl, hn3, hBl, hr, hok⟩ := VIn.head (hV1.below hBw)
        obtain ⟨at1, ct1, hsl, hN1⟩ := cut_one (show VIn w00 (some ⟨B1, o1, none⟩) (m1 + 1) k3 (o :: os') by rw [← hn3]; exact hV1)
        rw [← hn3] at hsl
        have HN1 := WirS.hide hN1
        have HN2 := WirS.hide hV2
        have g3 : (0 : Int) < (n3 : Int) := by omega
        have HN3 := WirS.hide hn3
        clear l2
        have hpre : pre ++ [o] <+: M := ⟨mrg os' [], by have := hE.out; rw [show mrg (o :: os') [] = o :: mrg os' [] by rw [mrg_nil_right, mrg_nil_right]] at this; rw [← this]; simp⟩
        have HE2 : Hid ((pre ++ [o]) ++ mrg os' [] = M) := WirS.hide (by have := hE.out; rw [show mrg (o :: os') [] = o :: mrg os' [] by rw [mrg_nil_right, mrg_nil_right]] at this; rw [← this]; simp)
        have HPre := WirS.hide hpre
        clear hpre hE
        have hlt := Nat.lt_irrefl 0
        have HL0 := WirS.hide (show At (wr.alloc (.cells #[.int .u8 0, .int .u8 0, .int .u8 0, .int .u8 0, .int .i64 0] 100)) wr.heap.size 100 [.int .u8 0, .int .u8 0, .int .u8 0, .int .u8 0, .int .i64 0] from At.new wr _ _)
        obtain ⟨wa, ewa⟩ : ∃ wa, wa = wr.alloc (.cells #[.int .u8 0, .int .u8 0, .int .u8 0, .int .u8 0, .int .i64 0] 100) := ⟨_, rfl⟩
        rw [← ewa] at HL0
        have HBa := WirS.hide (show Below wr.heap.size wr wa by rw [ewa]; exact Below.alloc (Below.refl _ _) (Nat.le_refl _) _)
        have HCa := WirS.hide (show Below w00.heap.size w00 wa by rw [ewa]; exact hBw.alloc hBw.size _)
        have EWA := WirS.hide ewa
        clear ewa hlt
        have hra : wa.rangeAt B1 o1 o.cells := fun j v hj => by rw [EWA.out]; exact ((Below.alloc (Below.refl wr.heap.size wr) (Nat.le_refl _) _).cell (p := ⟨B1, o1 + j, none⟩) hBl).trans (hr j v hj)
        have HRA := WirS.hide hra
        have hne : B1 ≠ wr.heap.size := by omega
        clear hr hra hV1 hV2 hN1 hn3
        go_upto_region 4 with fail
        rw [← EWA.out]
        go_quiet (fail)
        go_upto_region 5 with fail
        generalize hW : World.drewN wa _ = W1
        have HL1 := WirS.hide (show At W1 wr.heap.size 100 [.int .u8 0, .int .u8 0, .int .u8 0, .int .u8 0, .int .i64 0] by rw [← hW]; exact HL0.out)
        have HB1 := WirS.hide (show Below wr.heap.size wr W1 by rw [← hW]; first | exact below_drewN (below_drewN HBa.out _) _ | exact below_drewN HBa.out _)
        have HC1 := WirS.hide (show Below w00.heap.size w00 W1 by rw [← hW]; first | exact below_drewN (below_drewN HCa.out _) _ | exact below_drewN HCa.out _)
        have hrb : W1.rangeAt B1 o1 o.cells := by rw [← hW]; exact HRA.out
        clear hW 
        have q0 : W1.cell? ⟨B1, o1, none⟩ = some (.int .u8 o.a) := hrb 0 _ rfl
        have q1 : W1.cell? ⟨B1, o1 + 1, none⟩ = some (.int .u8 o.b) := hrb 1 _ rfl
        have q2 : W1.cell? ⟨B1, o1 + 2, none⟩ = some (.int .u8 o.c) := hrb 2 _ rfl
        have q3 : W1.cell? ⟨B1, o1 + 3, none⟩ = some (.int .u8 o.d) := hrb 3 _ rfl
        have q4 : W1.cell? ⟨B1, o1 + 4, none⟩ = some (.int .i64 o.p) := hrb 4 _ rfl
        have l0 : W1.cell? ⟨wr.heap.size, 0, none⟩ = some (.int .u8 0) := HL1.out.cell 0
        have lf0 := HL1.out.frozen 0
        have l1 : W1.cell? ⟨wr.heap.size, 1, none⟩ = some (.int .u8 0) := HL1.out.cell 1
        have lf1 := HL1.out.frozen 1
        have l2 : W1.cell? ⟨wr.heap.size, 2, none⟩ = some (.int .u8 0) := HL1.out.cell 2
        have lf2 := HL1.out.frozen 2
        have l3 : W1.cell? ⟨wr.heap.size, 3, none⟩ = some (.int .u8 0) := HL1.out.cell 3
        have lf3 := HL1.out.frozen 3
        have l4 : W1.cell? ⟨wr.heap.size, 4, none⟩ = some (.int .i64 0) := HL1.out.cell 4
        have lf4 := HL1.out.frozen 4
        clear hrb
        go_region
        go_upto_region 8 with fail
        generalize hU : World.drew _ = U
        have hLU : At U wr.heap.size 100 o.cells := by rw [← hU]; exact put5 HL1.out o
        have hBU : Below wr.heap.size wr U := by rw [← hU]; exact (below5 HB1.out (Nat.le_refl _) _ _ _ _ _).drew
        have hCU : Below w00.heap.size w00 U := by rw [← hU]; exact (below5 HC1.out hBw.size _ _ _ _ _).drew
        have hJU := HJ.out _ _ _ hJp hBU
        obtain ⟨fn, tmps, assign, body, hy, hR⟩ := HY.out pre o U hJU HPre.out
        have y0 : U.cell? ⟨wr.heap.size, 0, none⟩ = some (.int .u8 o.a) := hLU.cell 0
        have y1 : U.cell? ⟨wr.heap.size, 1, none⟩ = some (.int .u8 o.b) := hLU.cell 1
        have y2 : U.cell? ⟨wr.heap.size, 2, none⟩ = some (.int .u8 o.c) := hLU.cell 2
        have y3 : U.cell? ⟨wr.heap.size, 3, none⟩ = some (.int .u8 o.d) := hLU.cell 3
        have y4 : U.cell? ⟨wr.heap.size, 4, none⟩ = some (.int .i64 o.p) := hLU.cell 4
        have hUs := hBU.size
        have HCU := WirS.hide hCU
        clear hU hLU hBU hJU hCU
        unfold encV at hy
        refine (wpIn_wide (n := n)).1 ?_
        gi_wp2_with fail
        refine ⟨fun h => by simp [Fence.wide] at h, hR.mono ?_⟩
        rintro e U' (⟨rfl, hJ2, hk, hkp⟩ | ⟨rfl, hJx2⟩)
        · have HK := WirS.hide hk
          have HKP := WirS.hide hkp
          clear hk hkp y0 y1 y2 y3 y4
          gi_wp2
          go_wp2_with fail
          go_roundw
          case rel => exact ⟨pre ++ [o], os', [], _, _, _, _, _, _, rfl, rfl, HN1.out, HN2.out, HE2, hJ2, HCU.out.trans HKP.out, Nat.le_trans hHw (Nat.le_trans hUs HK.out.1)⟩
          case measure => simp [sl]; have := HN3.out; omega
        · gi_wp2
          go_wp2_with fail
          first | go_end0 | refine bodyPost_ret (results_none rfl _ _ _) rfl ?_
          exact ⟨⟨_, rfl⟩, .inr ⟨_, HPre.out, hJx2⟩⟩
      · obtain ⟨c, cs', rfl⟩ : ∃ c l, cs = c :: l := by cases cs with | nil => exact absurd rfl hcs | cons c l => exact ⟨c, l, rfl⟩
        clear hcs
        have HV1 := WirS.hide hV1
        have HV2 := WirS.hide hV2
        obtain ⟨B1, o1, m1, rfl, hn3, hBl, hr, hok⟩ := VIn.head (hV1.below hBw)
        obtain ⟨at1, ct1, hsl, hN1⟩ := cut_one (show VIn w00 (some ⟨B1, o1, none⟩) (m1 + 1) k3 (o :: os') by rw [← hn3]; exact hV1)
        rw [← hn3] at hsl
        obtain ⟨B2, o2, m2, rfl, hn4, hBl2, hr2, hok2⟩ := VIn.head (hV2.below hBw)
        obtain ⟨at2, ct2, hsl2, hN2⟩ := cut_one (show VIn w00 (some ⟨B2, o2, none⟩) (m2 + 1) k4 (c :: cs') by rw [← hn4]; exact hV2)
        rw [← hn4] at hsl2
        have HN1 := WirS.hide hN1
        have HN2 := WirS.hide hN2
        have g3 : (0 : Int) < (n3 : Int) := by omega
        have g4 : (0 : Int) < (n4 : Int) := by omega
        have g3n : 0 < n3 := by omega
        have g4n : 0 < n4 := by omega
        have g5 : ((n4 : Int) == 0) = false := by simp; omega
        have HN3 := WirS.hide hn3
        have HN4 := WirS.hide hn4
        by_cases hlt : o.rk < c.rk
        · have hpre : pre ++ [o] <+: M := ⟨mrg os' (c :: cs'), by have := hE.out; rw [mrg_lt os' cs' hlt] at this; rw [← this]; simp⟩
          have HE2 : Hid ((pre ++ [o]) ++ mrg os' (c :: cs') = M) := WirS.hide (by have := hE.out; rw [mrg_lt os' cs' hlt] at this; rw [← this]; simp)
          have HPre := WirS.hide hpre
          clear hpre hE
          have hlt := Nat.lt_irrefl 0
          have HL0 := WirS.hide (show At (wr.alloc (.cells #[.int .u8 0, .int .u8 0, .int .u8 0, .int .u8 0, .int .i64 0] 100)) wr.heap.size 100 [.int .u8 0, .int .u8 0, .int .u8 0, .int .u8 0, .int .i64 0] from At.new wr _ _)
          obtain ⟨wa, ewa⟩ : ∃ wa, wa = wr.alloc (.cells #[.int .u8 0, .int .u8 0, .int .u8 0, .int .u8 0, .int .i64 0] 100) := ⟨_, rfl⟩
          rw [← ewa] at HL0
          have HBa := WirS.hide (show Below wr.heap.size wr wa by rw [ewa]; exact Below.alloc (Below.refl _ _) (Nat.le_refl _) _)
          have HCa := WirS.hide (show Below w00.heap.size w00 wa by rw [ewa]; exact hBw.alloc hBw.size _)
          have EWA := WirS.hide ewa
          clear ewa hlt
          have hra : wa.rangeAt B1 o1 o.cells := fun j v hj => by rw [EWA.out]; exact ((Below.alloc (Below.refl wr.heap.size wr) (Nat.le_refl _) _).cell (p := ⟨B1, o1 + j, none⟩) hBl).trans (hr j v hj)
          have hrc : wa.rangeAt B2 o2 c.cells := fun j v hj => by rw [EWA.out]; exact ((Below.alloc (Below.refl wr.heap.size wr) (Nat.le_refl _) _).cell (p := ⟨B2, o2 + j, none⟩) hBl2).trans (hr2 j v hj)
          have HRA := WirS.hide hra
          have HRC := WirS.hide hrc
          have hba : B1 < wa.heap.size := by rw [EWA.out]; simp; omega
          have hbc : B2 < wa.heap.size := by rw [EWA.out]; simp; omega
          have HBAl := WirS.hide hba
          have HBCl := WirS.hide hbc
          have r0 : wa.cell? ⟨B1, o1, none⟩ = some (.int .u8 o.a) := hra 0 _ rfl
          have r1 : wa.cell? ⟨B1, o1 + 1, none⟩ = some (.int .u8 o.b) := hra 1 _ rfl
          have r2 : wa.cell? ⟨B1, o1 + 2, none⟩ = some (.int .u8 o.c) := hra 2 _ rfl
          have r3 : wa.cell? ⟨B1, o1 + 3, none⟩ = some (.int .u8 o.d) := hra 3 _ rfl
          have s0 : wa.cell? ⟨B2, o2, none⟩ = some (.int .u8 c.a) := hrc 0 _ rfl
          have s1 : wa.cell? ⟨B2, o2 + 1, none⟩ = some (.int .u8 c.b) := hrc 1 _ rfl
          have s2 : wa.cell? ⟨B2, o2 + 2, none⟩ = some (.int .u8 c.c) := hrc 2 _ rfl
          have s3 : wa.cell? ⟨B2, o2 + 3, none⟩ = some (.int .u8 c.d) := hrc 3 _ rfl
          have hne : B1 ≠ wr.heap.size := by omega
          have hne2 : B2 ≠ wr.heap.size := by omega
          clear hr hr2 hra hrc hV1 hV2 hN1 hN2 hn3 hn4 hba hbc
          have HC := WirS.hide (fun U => show Calls Try.prog 189 #[.agg #[.int .u8 o.a, .int .u8 o.b, .int .u8 o.c, .int .u8 o.d], .agg #[.int .u8 c.a, .int .u8 c.b, .int .u8 c.c, .int .u8 c.d]] U (fun e w' => e = .returned (.int .i64 (cmpR o.rk c.rk)) ∧ Below U.heap.size U w') from compare_any U o c hok hok2)
          have hK : cmpR o.rk c.rk < 0 := (cmpR_lt _ _).2 hlt
          clear hlt
          generalize cmpR o.rk c.rk = K at *
          go_upto_region 4 with fail
          rw [← EWA.out]
          go_region_held3 (fun w' => w'.cell? ⟨B1, o1, none⟩ = some (.int .u8 o.a) ∧ w'.cell? ⟨B1, o1 + 1, none⟩ = some (.int .u8 o.b) ∧ w'.cell? ⟨B1, o1 + 2, none⟩ = some (.int .u8 o.c) ∧ w'.cell? ⟨B1, o1 + 3, none⟩ = some (.int .u8 o.d) ∧ w'.cell? ⟨B2, o2, none⟩ = some (.int .u8 c.a) ∧ w'.cell? ⟨B2, o2 + 1, none⟩ = some (.int .u8 c.b) ∧ w'.cell? ⟨B2, o2 + 2, none⟩ = some (.int .u8 c.c) ∧ w'.cell? ⟨B2, o2 + 3, none⟩ = some (.int .u8 c.d)) (go_keep)
            (first | (go_at_call 189; refine (HC.out _).mono ?_; rintro e w1 ⟨rfl, hb⟩; have hb1 : Below wa.heap.size wa w1 := (below_drewN (Below.refl _ _) 1).trans hb; have h0 : w1.rangeAt B1 o1 o.cells := (fun j v hj => (hb1.cell (p := ⟨B1, o1 + j, none⟩) HBAl.out).trans (HRA.out j v hj)); have h1 : w1.rangeAt B2 o2 c.cells := (fun j v hj => (hb1.cell (p := ⟨B2, o2 + j, none⟩) HBCl.out).trans (HRC.out j v hj)); have t00 : w1.cell? ⟨B1, o1, none⟩ = some (.int .u8 o.a) := h0 0 _ rfl; have t01 : w1.cell? ⟨B1, o1 + 1, none⟩ = some (.int .u8 o.b) := h0 1 _ rfl; have t02 : w1.cell? ⟨B1, o1 + 2, none⟩ = some (.int .u8 o.c) := h0 2 _ rfl; have t03 : w1.cell? ⟨B1, o1 + 3, none⟩ = some (.int .u8 o.d) := h0 3 _ rfl; have t10 : w1.cell? ⟨B2, o2, none⟩ = some (.int .u8 c.a) := h1 0 _ rfl; have t11 : w1.cell? ⟨B2, o2 + 1, none⟩ = some (.int .u8 c.b) := h1 1 _ rfl; have t12 : w1.cell? ⟨B2, o2 + 2, none⟩ = some (.int .u8 c.c) := h1 2 _ rfl; have t13 : w1.cell? ⟨B2, o2 + 3, none⟩ = some (.int .u8 c.d) := h1 3 _ rfl; have HR1 := WirS.hide h0; have HR2 := WirS.hide h1; have HL2 := WirS.hide (HL0.out.below hb1 HL0.out.lt); have HB2 := WirS.hide (HBa.out.trans (hb1.mono HBa.out.size)); have HC2 := WirS.hide (HCa.out.trans (hb1.mono HCa.out.size)); clear hb hb1 h0 h1))
          go_upto_region 5 with fail
          have HL1 := HL2
          have HB1 := HB2
          have HC1 := HC2
          have hrb := HR1.out
          clear r0 r1 r2 r3 s0 s1 s2 s3 t00 t01 t02 t03 t10 t11 t12 t13
          have q0 : w1.cell? ⟨B1, o1, none⟩ = some (.int .u8 o.a) := hrb 0 _ rfl
          have q1 : w1.cell? ⟨B1, o1 + 1, none⟩ = some (.int .u8 o.b) := hrb 1 _ rfl
          have q2 : w1.cell? ⟨B1, o1 + 2, none⟩ = some (.int .u8 o.c) := hrb 2 _ rfl
          have q3 : w1.cell? ⟨B1, o1 + 3, none⟩ = some (.int .u8 o.d) := hrb 3 _ rfl
          have q4 : w1.cell? ⟨B1, o1 + 4, none⟩ = some (.int .i64 o.p) := hrb 4 _ rfl
          have l0 : w1.cell? ⟨wr.heap.size, 0, none⟩ = some (.int .u8 0) := HL1.out.cell 0
          have lf0 := HL1.out.frozen 0
          have l1 : w1.cell? ⟨wr.heap.size, 1, none⟩ = some (.int .u8 0) := HL1.out.cell 1
          have lf1 := HL1.out.frozen 1
          have l2 : w1.cell? ⟨wr.heap.size, 2, none⟩ = some (.int .u8 0) := HL1.out.cell 2
          have lf2 := HL1.out.frozen 2
          have l3 : w1.cell? ⟨wr.heap.size, 3, none⟩ = some (.int .u8 0) := HL1.out.cell 3
          have lf3 := HL1.out.frozen 3
          have l4 : w1.cell? ⟨wr.heap.size, 4, none⟩ = some (.int .i64 0) := HL1.out.cell 4
          have lf4 := HL1.out.frozen 4
          clear hrb
          go_region
          go_upto_region 8 with fail
          generalize hU : World.drew _ = U
          have hLU : At U wr.heap.size 100 o.cells := by rw [← hU]; exact put5 HL1.out o
          have hBU : Below wr.heap.size wr U := by rw [← hU]; exact (below5 HB1.out (Nat.le_refl _) _ _ _ _ _).drew
          have hCU : Below w00.heap.size w00 U := by rw [← hU]; exact (below5 HC1.out hBw.size _ _ _ _ _).drew
          have hJU := HJ.out _ _ _ hJp hBU
          obtain ⟨fn, tmps, assign, body, hy, hR⟩ := HY.out pre o U hJU HPre.out
          have y0 : U.cell? ⟨wr.heap.size, 0, none⟩ = some (.int .u8 o.a) := hLU.cell 0
          have y1 : U.cell? ⟨wr.heap.size, 1, none⟩ = some (.int .u8 o.b) := hLU.cell 1
          have y2 : U.cell? ⟨wr.heap.size, 2, none⟩ = some (.int .u8 o.c) := hLU.cell 2
          have y3 : U.cell? ⟨wr.heap.size, 3, none⟩ = some (.int .u8 o.d) := hLU.cell 3
          have y4 : U.cell? ⟨wr.heap.size, 4, none⟩ = some (.int .i64 o.p) := hLU.cell 4
          have hUs := hBU.size
          have HCU := WirS.hide hCU
          clear hU hLU hBU hJU hCU
          unfold encV at hy
          refine (wpIn_wide (n := n)).1 ?_
          gi_wp2_with fail
          refine ⟨fun h => by simp [Fence.wide] at h, hR.mono ?_⟩
          rintro e U' (⟨rfl, hJ2, hk, hkp⟩ | ⟨rfl, hJx2⟩)
          · have HK := WirS.hide hk
            have HKP := WirS.hide hkp
            clear hk hkp y0 y1 y2 y3 y4
            gi_wp2
            go_wp2_with fail
            go_roundw
            case rel => exact ⟨pre ++ [o], os', c :: cs', _, _, _, _, _, _, rfl, rfl, HN1.out, HV2.out, HE2, hJ2, HCU.out.trans HKP.out, Nat.le_trans hHw (Nat.le_trans hUs HK.out.1)⟩
            case measure => simp [sl]; have := HN3.out; omega
          · gi_wp2
            go_wp2_with fail
            first | go_end0 | refine bodyPost_ret (results_none rfl _ _ _) rfl ?_
            exact ⟨⟨_, rfl⟩, .inr ⟨_, HPre.out, hJx2⟩⟩
        · by_cases heq : o.rk = c.rk
          · have hpre : pre ++ [c] <+: M := ⟨mrg os' cs', by have := hE.out; rw [mrg_eq os' cs' heq] at this; rw [← this]; simp⟩
            have HE2 : Hid ((pre ++ [c]) ++ mrg os' cs' = M) := WirS.hide (by have := hE.out; rw [mrg_eq os' cs' heq] at this; rw [← this]; simp)
            have HPre := WirS.hide hpre
            clear hpre hE
            have hlt := Nat.lt_irrefl 0
            have HL0 := WirS.hide (show At (wr.alloc (.cells #[.int .u8 0, .int .u8 0, .int .u8 0, .int .u8 0, .int .i64 0] 100)) wr.heap.size 100 [.int .u8 0, .int .u8 0, .int .u8 0, .int .u8 0, .int .i64 0] from At.new wr _ _)
            obtain ⟨wa, ewa⟩ : ∃ wa, wa = wr.alloc (.cells #[.int .u8 0, .int .u8 0, .int .u8 0, .int .u8 0, .int .i64 0] 100) := ⟨_, rfl⟩
            rw [← ewa] at HL0
            have HBa := WirS.hide (show Below wr.heap.size wr wa by rw [ewa]; exact Below.alloc (Below.refl _ _) (Nat.le_refl _) _)
            have HCa := WirS.hide (show Below w00.heap.size w00 wa by rw [ewa]; exact hBw.alloc hBw.size _)
            have EWA := WirS.hide ewa
            clear ewa hlt
            have hra : wa.rangeAt B1 o1 o.cells := fun j v hj => by rw [EWA.out]; exact ((Below.alloc (Below.refl wr.heap.size wr) (Nat.le_refl _) _).cell (p := ⟨B1, o1 + j, none⟩) hBl).trans (hr j v hj)
            have hrc : wa.rangeAt B2 o2 c.cells := fun j v hj => by rw [EWA.out]; exact ((Below.alloc (Below.refl wr.heap.size wr) (Nat.le_refl _) _).cell (p := ⟨B2, o2 + j, none⟩) hBl2).trans (hr2 j v hj)
            have HRA := WirS.hide hra
            have HRC := WirS.hide hrc
            have hba : B1 < wa.heap.size := by rw [EWA.out]; simp; omega
            have hbc : B2 < wa.heap.size := by rw [EWA.out]; simp; omega
            have HBAl := WirS.hide hba
            have HBCl := WirS.hide hbc
            have r0 : wa.cell? ⟨B1, o1, none⟩ = some (.int .u8 o.a) := hra 0 _ rfl
            have r1 : wa.cell? ⟨B1, o1 + 1, none⟩ = some (.int .u8 o.b) := hra 1 _ rfl
            have r2 : wa.cell? ⟨B1, o1 + 2, none⟩ = some (.int .u8 o.c) := hra 2 _ rfl
            have r3 : wa.cell? ⟨B1, o1 + 3, none⟩ = some (.int .u8 o.d) := hra 3 _ rfl
            have s0 : wa.cell? ⟨B2, o2, none⟩ = some (.int .u8 c.a) := hrc 0 _ rfl
            have s1 : wa.cell? ⟨B2, o2 + 1, none⟩ = some (.int .u8 c.b) := hrc 1 _ rfl
            have s2 : wa.cell? ⟨B2, o2 + 2, none⟩ = some (.int .u8 c.c) := hrc 2 _ rfl
            have s3 : wa.cell? ⟨B2, o2 + 3, none⟩ = some (.int .u8 c.d) := hrc 3 _ rfl
            have hne : B1 ≠ wr.heap.size := by omega
            have hne2 : B2 ≠ wr.heap.size := by omega
            clear hr hr2 hra hrc hV1 hV2 hN1 hN2 hn3 hn4 hba hbc
            have HC := WirS.hide (fun U => show Calls Try.prog 189 #[.agg #[.int .u8 o.a, .int .u8 o.b, .int .u8 o.c, .int .u8 o.d], .agg #[.int .u8 c.a, .int .u8 c.b, .int .u8 c.c, .int .u8 c.d]] U (fun e w' => e = .returned (.int .i64 (cmpR o.rk c.rk)) ∧ Below U.heap.size U w') from compare_any U o c hok hok2)
            have hK : ¬ cmpR o.rk c.rk < 0 := fun h => by have := (cmpR_lt _ _).1 h; omega
            have hkey : o.key = c.key := by obtain ⟨e1, e2, e3, e4⟩ := Vd.key_eq hok hok2 heq; unfold Vd.key; rw [e1, e2, e3, e4]
            have hq := fun U => eqK4 o c U
            simp only [decide_eq_true hkey] at hq
            clear heq hkey
            generalize cmpR o.rk c.rk = K at *
            go_upto_region 4 with fail
            rw [← EWA.out]
            go_region_held3 (fun w' => w'.cell? ⟨B1, o1, none⟩ = some (.int .u8 o.a) ∧ w'.cell? ⟨B1, o1 + 1, none⟩ = some (.int .u8 o.b) ∧ w'.cell? ⟨B1, o1 + 2, none⟩ = some (.int .u8 o.c) ∧ w'.cell? ⟨B1, o1 + 3, none⟩ = some (.int .u8 o.d) ∧ w'.cell? ⟨B2, o2, none⟩ = some (.int .u8 c.a) ∧ w'.cell? ⟨B2, o2 + 1, none⟩ = some (.int .u8 c.b) ∧ w'.cell? ⟨B2, o2 + 2, none⟩ = some (.int .u8 c.c) ∧ w'.cell? ⟨B2, o2 + 3, none⟩ = some (.int .u8 c.d)) (go_keep)
              (first | (go_at_call 189; refine (HC.out _).mono ?_; rintro e w1 ⟨rfl, hb⟩; have hb1 : Below wa.heap.size wa w1 := (below_drewN (Below.refl _ _) 1).trans hb; have h0 : w1.rangeAt B1 o1 o.cells := (fun j v hj => (hb1.cell (p := ⟨B1, o1 + j, none⟩) HBAl.out).trans (HRA.out j v hj)); have h1 : w1.rangeAt B2 o2 c.cells := (fun j v hj => (hb1.cell (p := ⟨B2, o2 + j, none⟩) HBCl.out).trans (HRC.out j v hj)); have t00 : w1.cell? ⟨B1, o1, none⟩ = some (.int .u8 o.a) := h0 0 _ rfl; have t01 : w1.cell? ⟨B1, o1 + 1, none⟩ = some (.int .u8 o.b) := h0 1 _ rfl; have t02 : w1.cell? ⟨B1, o1 + 2, none⟩ = some (.int .u8 o.c) := h0 2 _ rfl; have t03 : w1.cell? ⟨B1, o1 + 3, none⟩ = some (.int .u8 o.d) := h0 3 _ rfl; have t10 : w1.cell? ⟨B2, o2, none⟩ = some (.int .u8 c.a) := h1 0 _ rfl; have t11 : w1.cell? ⟨B2, o2 + 1, none⟩ = some (.int .u8 c.b) := h1 1 _ rfl; have t12 : w1.cell? ⟨B2, o2 + 2, none⟩ = some (.int .u8 c.c) := h1 2 _ rfl; have t13 : w1.cell? ⟨B2, o2 + 3, none⟩ = some (.int .u8 c.d) := h1 3 _ rfl; have HR1 := WirS.hide h0; have HR2 := WirS.hide h1; have HL2 := WirS.hide (HL0.out.below hb1 HL0.out.lt); have HB2 := WirS.hide (HBa.out.trans (hb1.mono HBa.out.size)); have HC2 := WirS.hide (HCa.out.trans (hb1.mono HCa.out.size)); clear hb hb1 h0 h1))
            clear r0 r1 r2 r3 s0 s1 s2 s3
            go_upto_region 6 with fail
            go_quiet (fail)
            go_upto_region 7 with fail
            generalize hW : World.drewN w1 _ = W1
            have HL1 := WirS.hide (show At W1 wr.heap.size 100 [.int .u8 0, .int .u8 0, .int .u8 0, .int .u8 0, .int .i64 0] by rw [← hW]; exact HL2.out)
            have HB1 := WirS.hide (show Below wr.heap.size wr W1 by rw [← hW]; first | exact below_drewN (below_drewN HB2.out _) _ | exact below_drewN HB2.out _)
            have HC1 := WirS.hide (show Below w00.heap.size w00 W1 by rw [← hW]; first | exact below_drewN (below_drewN HC2.out _) _ | exact below_drewN HC2.out _)
            have hrb : W1.rangeAt B2 o2 c.cells := by rw [← hW]; exact HR2.out
            clear hW t00 t01 t02 t03 t10 t11 t12 t13 hq
            have q0 : W1.cell? ⟨B2, o2, none⟩ = some (.int .u8 c.a) := hrb 0 _ rfl
            have q1 : W1.cell? ⟨B2, o2 + 1, none⟩ = some (.int .u8 c.b) := hrb 1 _ rfl
            have q2 : W1.cell? ⟨B2, o2 + 2, none⟩ = some (.int .u8 c.c) := hrb 2 _ rfl
            have q3 : W1.cell? ⟨B2, o2 + 3, none⟩ = some (.int .u8 c.d) := hrb 3 _ rfl
            have q4 : W1.cell? ⟨B2, o2 + 4, none⟩ = some (.int .i64 c.p) := hrb 4 _ rfl
            have l0 : W1.cell? ⟨wr.heap.size, 0, none⟩ = some (.int .u8 0) := HL1.out.cell 0
            have lf0 := HL1.out.frozen 0
            have l1 : W1.cell? ⟨wr.heap.size, 1, none⟩ = some (.int .u8 0) := HL1.out.cell 1
            have lf1 := HL1.out.frozen 1
            have l2 : W1.cell? ⟨wr.heap.size, 2, none⟩ = some (.int .u8 0) := HL1.out.cell 2
            have lf2 := HL1.out.frozen 2
            have l3 : W1.cell? ⟨wr.heap.size, 3, none⟩ = some (.int .u8 0) := HL1.out.cell 3
            have lf3 := HL1.out.frozen 3
            have l4 : W1.cell? ⟨wr.heap.size, 4, none⟩ = some (.int .i64 0) := HL1.out.cell 4
            have lf4 := HL1.out.frozen 4
            clear hrb
            go_region
            go_upto_region 8 with fail
            generalize hU : World.drew _ = U
            have hLU : At U wr.heap.size 100 c.cells := by rw [← hU]; exact put5 HL1.out c
            have hBU : Below wr.heap.size wr U := by rw [← hU]; exact (below5 HB1.out (Nat.le_refl _) _ _ _ _ _).drew
            have hCU : Below w00.heap.size w00 U := by rw [← hU]; exact (below5 HC1.out hBw.size _ _ _ _ _).drew
            have hJU := HJ.out _ _ _ hJp hBU
            obtain ⟨fn, tmps, assign, body, hy, hR⟩ := HY.out pre c U hJU HPre.out
            have y0 : U.cell? ⟨wr.heap.size, 0, none⟩ = some (.int .u8 c.a) := hLU.cell 0
            have y1 : U.cell? ⟨wr.heap.size, 1, none⟩ = some (.int .u8 c.b) := hLU.cell 1
            have y2 : U.cell? ⟨wr.heap.size, 2, none⟩ = some (.int .u8 c.c) := hLU.cell 2
            have y3 : U.cell? ⟨wr.heap.size, 3, none⟩ = some (.int .u8 c.d) := hLU.cell 3
            have y4 : U.cell? ⟨wr.heap.size, 4, none⟩ = some (.int .i64 c.p) := hLU.cell 4
            have hUs := hBU.size
            have HCU := WirS.hide hCU
            clear hU hLU hBU hJU hCU
            unfold encV at hy
            refine (wpIn_wide (n := n)).1 ?_
            gi_wp2_with fail
            refine ⟨fun h => by simp [Fence.wide] at h, hR.mono ?_⟩
            rintro e U' (⟨rfl, hJ2, hk, hkp⟩ | ⟨rfl, hJx2⟩)
            · have HK := WirS.hide hk
              have HKP := WirS.hide hkp
              clear hk hkp y0 y1 y2 y3 y4
              gi_wp2
              go_wp2_with fail
              go_roundw
              case rel => exact ⟨pre ++ [c], os', cs', _, _, _, _, _, _, rfl, rfl, HN1.out, HN2.out, HE2, hJ2, HCU.out.trans HKP.out, Nat.le_trans hHw (Nat.le_trans hUs HK.out.1)⟩
              case measure => simp [sl]; have := HN3.out; have := HN4.out; omega
            · gi_wp2
              go_wp2_with fail
              first | go_end0 | refine bodyPost_ret (results_none rfl _ _ _) rfl ?_
              exact ⟨⟨_, rfl⟩, .inr ⟨_, HPre.out, hJx2⟩⟩
          · have hgt : c.rk < o.rk := by omega
            clear hlt heq
            have hpre : pre ++ [c] <+: M := ⟨mrg (o :: os') cs', by have := hE.out; rw [mrg_gt os' cs' hgt] at this; rw [← this]; simp⟩
            have HE2 : Hid ((pre ++ [c]) ++ mrg (o :: os') cs' = M) := WirS.hide (by have := hE.out; rw [mrg_gt os' cs' hgt] at this; rw [← this]; simp)
            have HPre := WirS.hide hpre
            clear hpre hE
            have hlt := Nat.lt_irrefl 0
            have HL0 := WirS.hide (show At (wr.alloc (.cells #[.int .u8 0, .int .u8 0, .int .u8 0, .int .u8 0, .int .i64 0] 100)) wr.heap.size 100 [.int .u8 0, .int .u8 0, .int .u8 0, .int .u8 0, .int .i64 0] from At.new wr _ _)
            obtain ⟨wa, ewa⟩ : ∃ wa, wa = wr.alloc (.cells #[.int .u8 0, .int .u8 0, .int .u8 0, .int .u8 0, .int .i64 0] 100) := ⟨_, rfl⟩
            rw [← ewa] at HL0
            have HBa := WirS.hide (show Below wr.heap.size wr wa by rw [ewa]; exact Below.alloc (Below.refl _ _) (Nat.le_refl _) _)
            have HCa := WirS.hide (show Below w00.heap.size w00 wa by rw [ewa]; exact hBw.alloc hBw.size _)
            have EWA := WirS.hide ewa
            clear ewa hlt
            have hra : wa.rangeAt B1 o1 o.cells := fun j v hj => by rw [EWA.out]; exact ((Below.alloc (Below.refl wr.heap.size wr) (Nat.le_refl _) _).cell (p := ⟨B1, o1 + j, none⟩) hBl).trans (hr j v hj)
            have hrc : wa.rangeAt B2 o2 c.cells := fun j v hj => by rw [EWA.out]; exact ((Below.alloc (Below.refl wr.heap.size wr) (Nat.le_refl _) _).cell (p := ⟨B2, o2 + j, none⟩) hBl2).trans (hr2 j v hj)
            have HRA := WirS.hide hra
            have HRC := WirS.hide hrc
            have hba : B1 < wa.heap.size := by rw [EWA.out]; simp; omega
            have hbc : B2 < wa.heap.size := by rw [EWA.out]; simp; omega
            have HBAl := WirS.hide hba
            have HBCl := WirS.hide hbc
            have r0 : wa.cell? ⟨B1, o1, none⟩ = some (.int .u8 o.a) := hra 0 _ rfl
            have r1 : wa.cell? ⟨B1, o1 + 1, none⟩ = some (.int .u8 o.b) := hra 1 _ rfl
            have r2 : wa.cell? ⟨B1, o1 + 2, none⟩ = some (.int .u8 o.c) := hra 2 _ rfl
            have r3 : wa.cell? ⟨B1, o1 + 3, none⟩ = some (.int .u8 o.d) := hra 3 _ rfl
            have s0 : wa.cell? ⟨B2, o2, none⟩ = some (.int .u8 c.a) := hrc 0 _ rfl
            have s1 : wa.cell? ⟨B2, o2 + 1, none⟩ = some (.int .u8 c.b) := hrc 1 _ rfl
            have s2 : wa.cell? ⟨B2, o2 + 2, none⟩ = some (.int .u8 c.c) := hrc 2 _ rfl
            have s3 : wa.cell? ⟨B2, o2 + 3, none⟩ = some (.int .u8 c.d) := hrc 3 _ rfl
            have hne : B1 ≠ wr.heap.size := by omega
            have hne2 : B2 ≠ wr.heap.size := by omega
            clear hr hr2 hra hrc hV1 hV2 hN1 hN2 hn3 hn4 hba hbc
            have HC := WirS.hide (fun U => show Calls Try.prog 189 #[.agg #[.int .u8 o.a, .int .u8 o.b, .int .u8 o.c, .int .u8 o.d], .agg #[.int .u8 c.a, .int .u8 c.b, .int .u8 c.c, .int .u8 c.d]] U (fun e w' => e = .returned (.int .i64 (cmpR o.rk c.rk)) ∧ Below U.heap.size U w') from compare_any U o c hok hok2)
            have hK : ¬ cmpR o.rk c.rk < 0 := fun h => by have := (cmpR_lt _ _).1 h; omega
            have hkey : ¬ o.key = c.key := fun e => by unfold Vd.key at e; simp only [List.cons.injEq, and_true] at e; unfold Vd.rk at hgt; omega
            have hq := fun U => eqK4 o c U
            simp only [decide_eq_false hkey] at hq
            clear hgt hkey
            generalize cmpR o.rk c.rk = K at *
            go_upto_region 4 with fail
            rw [← EWA.out]
            go_region_held3 (fun w' => w'.cell? ⟨B1, o1, none⟩ = some (.int .u8 o.a) ∧ w'.cell? ⟨B1, o1 + 1, none⟩ = some (.int .u8 o.b) ∧ w'.cell? ⟨B1, o1 + 2, none⟩ = some (.int .u8 o.c) ∧ w'.cell? ⟨B1, o1 + 3, none⟩ = some (.int .u8 o.d) ∧ w'.cell? ⟨B2, o2, none⟩ = some (.int .u8 c.a) ∧ w'.cell? ⟨B2, o2 + 1, none⟩ = some (.int .u8 c.b) ∧ w'.cell? ⟨B2, o2 + 2, none⟩ = some (.int .u8 c.c) ∧ w'.cell? ⟨B2, o2 + 3, none⟩ = some (.int .u8 c.d)) (go_keep)
              (first | (go_at_call 189; refine (HC.out _).mono ?_; rintro e w1 ⟨rfl, hb⟩; have hb1 : Below wa.heap.size wa w1 := (below_drewN (Below.refl _ _) 1).trans hb; have h0 : w1.rangeAt B1 o1 o.cells := (fun j v hj => (hb1.cell (p := ⟨B1, o1 + j, none⟩) HBAl.out).trans (HRA.out j v hj)); have h1 : w1.rangeAt B2 o2 c.cells := (fun j v hj => (hb1.cell (p := ⟨B2, o2 + j, none⟩) HBCl.out).trans (HRC.out j v hj)); have t00 : w1.cell? ⟨B1, o1, none⟩ = some (.int .u8 o.a) := h0 0 _ rfl; have t01 : w1.cell? ⟨B1, o1 + 1, none⟩ = some (.int .u8 o.b) := h0 1 _ rfl; have t02 : w1.cell? ⟨B1, o1 + 2, none⟩ = some (.int .u8 o.c) := h0 2 _ rfl; have t03 : w1.cell? ⟨B1, o1 + 3, none⟩ = some (.int .u8 o.d) := h0 3 _ rfl; have t10 : w1.cell? ⟨B2, o2, none⟩ = some (.int .u8 c.a) := h1 0 _ rfl; have t11 : w1.cell? ⟨B2, o2 + 1, none⟩ = some (.int .u8 c.b) := h1 1 _ rfl; have t12 : w1.cell? ⟨B2, o2 + 2, none⟩ = some (.int .u8 c.c) := h1 2 _ rfl; have t13 : w1.cell? ⟨B2, o2 + 3, none⟩ = some (.int .u8 c.d) := h1 3 _ rfl; have HR1 := WirS.hide h0; have HR2 := WirS.hide h1; have HL2 := WirS.hide (HL0.out.below hb1 HL0.out.lt); have HB2 := WirS.hide (HBa.out.trans (hb1.mono HBa.out.size)); have HC2 := WirS.hide (HCa.out.trans (hb1.mono HCa.out.size)); clear hb hb1 h0 h1))
            clear r0 r1 r2 r3 s0 s1 s2 s3
            go_upto_region 6 with fail
            go_quiet (fail)
            go_upto_region 3 with fail
            generalize hW : World.drewN w1 _ = W1
            have HL1 := WirS.hide (show At W1 wr.heap.size 100 [.int .u8 0, .int .u8 0, .int .u8 0, .int .u8 0, .int .i64 0] by rw [← hW]; exact HL2.out)
            have HB1 := WirS.hide (show Below wr.heap.size wr W1 by rw [← hW]; first | exact below_drewN (below_drewN HB2.out _) _ | exact below_drewN HB2.out _)
            have HC1 := WirS.hide (show Below w00.heap.size w00 W1 by rw [← hW]; first | exact below_drewN (below_drewN HC2.out _) _ | exact below_drewN HC2.out _)
            have hrb : W1.rangeAt B2 o2 c.cells := by rw [← hW]; exact HR2.out
            clear hW t00 t01 t02 t03 t10 t11 t12 t13 hq
            have q0 : W1.cell? ⟨B2, o2, none⟩ = some (.int .u8 c.a) := hrb 0 _ rfl
            have q1 : W1.cell? ⟨B2, o2 + 1, none⟩ = some (.int .u8 c.b) := hrb 1 _ rfl
            have q2 : W1.cell? ⟨B2, o2 + 2, none⟩ = some (.int .u8 c.c) := hrb 2 _ rfl
            have q3 : W1.cell? ⟨B2, o2 + 3, none⟩ = some (.int .u8 c.d) := hrb 3 _ rfl
            have q4 : W1.cell? ⟨B2, o2 + 4, none⟩ = some (.int .i64 c.p) := hrb 4 _ rfl
            have l0 : W1.cell? ⟨wr.heap.size, 0, none⟩ = some (.int .u8 0) := HL1.out.cell 0
            have lf0 := HL1.out.frozen 0
            have l1 : W1.cell? ⟨wr.heap.size, 1, none⟩ = some (.int .u8 0) := HL1.out.cell 1
            have lf1 := HL1.out.frozen 1
            have l2 : W1.cell? ⟨wr.heap.size, 2, none⟩ = some (.int .u8 0) := HL1.out.cell 2
            have lf2 := HL1.out.frozen 2
            have l3 : W1.cell? ⟨wr.heap.size, 3, none⟩ = some (.int .u8 0) := HL1.out.cell 3
            have lf3 := HL1.out.frozen 3
            have l4 : W1.cell? ⟨wr.heap.size, 4, none⟩ = some (.int .i64 0) := HL1.out.cell 4
            have lf4 := HL1.out.frozen 4
            clear hrb
            go_region
            go_upto_region 8 with fail
            generalize hU : World.drew _ = U
            have hLU : At U wr.heap.size 100 c.cells := by rw [← hU]; exact put5 HL1.out c
            have hBU : Below wr.heap.size wr U := by rw [← hU]; exact (below5 HB1.out (Nat.le_refl _) _ _ _ _ _).drew
            have hCU : Below w00.heap.size w00 U := by rw [← hU]; exact (below5 HC1.out hBw.size _ _ _ _ _).drew
            have hJU := HJ.out _ _ _ hJp hBU
            obtain ⟨fn, tmps, assign, body, hy, hR⟩ := HY.out pre c U hJU HPre.out
            have y0 : U.cell? ⟨wr.heap.size, 0, none⟩ = some (.int .u8 c.a) := hLU.cell 0
            have y1 : U.cell? ⟨wr.heap.size, 1, none⟩ = some (.int .u8 c.b) := hLU.cell 1
            have y2 : U.cell? ⟨wr.heap.size, 2, none⟩ = some (.int .u8 c.c) := hLU.cell 2
            have y3 : U.cell? ⟨wr.heap.size, 3, none⟩ = some (.int .u8 c.d) := hLU.cell 3
            have y4 : U.cell? ⟨wr.heap.size, 4, none⟩ = some (.int .i64 c.p) := hLU.cell 4
            have hUs := hBU.size
            have HCU := WirS.hide hCU
            clear hU hLU hBU hJU hCU
            unfold encV at hy
            refine (wpIn_wide (n := n)).1 ?_
            gi_wp2_with fail
            refine ⟨fun h => by simp [Fence.wide] at h, hR.mono ?_⟩
            rintro e U' (⟨rfl, hJ2, hk, hkp⟩ | ⟨rfl, hJx2⟩)
            · have HK := WirS.hide hk
              have HKP := WirS.hide hkp
              clear hk hkp y0 y1 y2 y3 y4
              gi_wp2
              go_wp2_with fail
              go_roundw
              case rel => exact ⟨pre ++ [c], o :: os', cs', _, _, _, _, _, _, rfl, rfl, HV1.out, HN2.out, HE2, hJ2, HCU.out.trans HKP.out, Nat.le_trans hHw (Nat.le_trans hUs HK.out.1)⟩
              case measure => simp [sl]; have := HN4.out; omega
            · gi_wp2
              go_wp2_with fail
              first | go_end0 | refine bodyPost_ret (results_none rfl _ _ _) rfl ?_
              exact ⟨⟨_, rfl⟩, .inr ⟨_, HPre.out, hJx2⟩⟩
end ValO
end Go.Proofs.Ytackcnncjeajpaa

namespace Go.Proofs.Ytackcnncjeajpaa
namespace ValQ
open Go.RowKit
open BlkM WirM WirS WirA WirB ValA ValB ValC ValD ValE ValH ValP ValM ValN ValO
open Go.Proofs.Ytackcnncjeajpaa.Seq2
attribute [local go_sem] Oper.semAt_some

theorem sAi {F : Fence} {n : Nat} {P : Program} {w : World} {ops : Array Oper} {rest : List Oper} {o : Oper} {a : Act} {Q : Exit → Act → World → Prop} (hg : o.guard = none) (t tx : TypeId) (s x : Operand) (hop : o.op = Op.call { callee := Callee.builtin Builtin.append, args := #[s, x], argTypes := #[t, tx] })
    (v y : Value) (hs : a.eval s = v) (hx : a.eval x = y) (v' : Value) (w' : World) (hrun : (Builtin.append_ #[t, tx] o.type #[v, y]).run P w = .ok v' w') (h : wpListIn F n P ops Q rest (a.put o.dst v') w') : wpListIn F n P ops Q (o :: rest) a w := by
  refine wpListIn_plain hg fun K hK' => ?_
  unfold Oper.wpIn
  refine ⟨?_, ?_⟩
  · simp [Oper.about, hop, resolve, Target.leads, Sem.run_pure]
  · rw [Oper.semAt_plain F _ _ (by rw [hop]; intro c hc'; cases hc')]
    simp [execOp, hop, resolve, invoke, builtin, hs, hx, hrun, Result.andThen]
    exact hK' _ _ h
theorem at_put {U : World} {k : Nat} {T : TypeId} {cs : List Value} (h : At U k T cs) (l : Nat) (o o' : Obj) (hl : U.heap[l]? = some o) (ho : o.isCells = false) : At (U.putObj l o') k T cs := by
  have hne : k ≠ l := by
    rintro rfl
    unfold At at h
    rw [h] at hl
    cases hl
    simp [Obj.isCells] at ho
  exact (World.putObj_heap_other hne).trans h
theorem own_put {U : World} {v : Value} {vs : List Vd} (h : OwnV U v vs) (l : Nat) (o o' : Obj) (hl : U.heap[l]? = some o) (ho : o.isCells = false) : OwnV (U.putObj l o') v vs := by
  obtain ⟨⟨hn, ⟨rfl, h0⟩ | ⟨g, cap, cur, rfl, hb, hg, hr⟩⟩, hok⟩ := h
  · exact ⟨⟨hn, .inl ⟨rfl, h0⟩⟩, hok⟩
  · have hne : g ≠ l := by
      rintro rfl
      rw [hg] at hl
      cases hl
      simp [Obj.isCells] at ho
    exact ⟨⟨hn, .inr ⟨g, cap, cur, rfl, hb, (World.putObj_heap_other hne).trans hg, hr⟩⟩, hok⟩
/-- append onto memory of its own turns cells alone. -/
theorem keeps_app {w w' : World} {v : Value} {vs : List Vd} (h : OwnV w v vs) (hf : Fr (fun k => v.ownBlock = some k) w w') : KeepsOthers w w' :=
  ⟨hf.size, fun k o hk ho => by
    refine (hf.block k (Array.getElem?_eq_some_iff.1 hk).1 ?_).trans hk
    intro e
    obtain ⟨⟨_, ⟨rfl, _⟩ | ⟨g, cap, cur, rfl, _, hg, _⟩⟩, _⟩ := h
    · simp [Value.ownBlock] at e
    · simp [Value.ownBlock] at e
      subst e
      rw [hg] at hk
      cases hk
      simp [Obj.isCells] at ho⟩
/-- What is left of a list: what no change removes. -/
def flt (l : List Vd) : List Vd := l.filter fun v => v.p != 0
theorem flt_one (l : List Vd) (x : Vd) : flt (l ++ [x]) = flt l ++ (if x.p = 0 then [] else [x]) := by
  unfold flt
  rw [List.filter_append]
  by_cases h : x.p = 0 <;> simp [h]
theorem flt_le {l m : List Vd} (h : l <+: m) : (flt l).length ≤ (flt m).length := by
  obtain ⟨r, rfl⟩ := h
  unfold flt
  rw [List.filter_append, List.length_append]
  omega
/-- What Change tells. -/
def chgd (vs ch : List Vd) : Int × List Vd :=
  if chk vs ≠ 0 then (chk vs, []) else if chgE vs none ch ≠ 0 then (chgE vs none ch, []) else
  if (flt (mrg vs ch)).length = 0 then (6, []) else if 64 < (flt (mrg vs ch)).length then (7, []) else (0, flt (mrg vs ch))
theorem merge_any (w : World) (a a2 : Option Addr) (n c n2 c2 : Nat) :
    Calls Try.prog 144 #[.slice a n c, .slice a2 n2 c2] w fun e w' => e = .returned (.func (.func 188) #[] #[.pointer (some ⟨w.heap.size, 0, none⟩), .pointer (some ⟨w.heap.size + 1, 0, none⟩)]) ∧ w' = (w.alloc (.cells #[.slice a n c] 80)).alloc (.cells #[.slice a2 n2 c2] 80) := by
  go_enter Try.func144, Try.ntmps144
  go_wp2
  go_ret
  exact ⟨rfl, rfl⟩
def ChP (w : World) (vs ch : List Vd) (e : Ending) (w' : World) : Prop :=
  ∃ va vn vc, e = .returned (.tuple #[.slice va vn vc, .int .i64 (chgd vs ch).1]) ∧ OwnV w' (.slice va vn vc) (chgd vs ch).2 ∧ (∀ k, (Value.slice va vn vc).ownBlock = some k → w.heap.size ≤ k) ∧ Below w.heap.size w w'
/-- What stands between two rounds of the loop. -/
def IQ (w : World) (V : Nat) (pre : List Vd) (U : World) : Prop :=
  ∃ v, At U V 80 [v] ∧ OwnV U v (flt pre) ∧ (∀ k, v.ownBlock = some k → V < k) ∧ (flt pre).length ≤ 64 ∧ At U w.heap.size 80 [.slice none 0 0] ∧ At U (w.heap.size + 1) 26 [.int .i64 0] ∧ Below w.heap.size w U
def IxQ (w : World) (c : Code) (pre : List Vd) (U : World) : Prop :=
  c = .ret ∧ 64 < (flt pre).length ∧ At U w.heap.size 80 [.slice none 0 0] ∧ At U (w.heap.size + 1) 26 [.int .i64 7] ∧ Below w.heap.size w U
theorem at_new {A C : World} {k : Nat} {T : TypeId} {cs : List Value} (h : At A k T cs) (hB : Below A.heap.size A C) : At C k T cs := h.below hB h.lt
theorem IQ_stays (w : World) (V b : Nat) (hb : w.heap.size ≤ b) : Stays b (IQ w V) where
  new := fun s A C ⟨v, h1, h2, h3, h4, h5, h6, h7⟩ hB => ⟨v, at_new h1 hB, h2.below hB, h3, h4, at_new h5 hB, at_new h6 hB, h7.trans (hB.mono h7.size)⟩
  put := fun s U l o o' hl ho hc ⟨v, h1, h2, h3, h4, h5, h6, h7⟩ => ⟨v, at_put h1 l o o' ho hc, own_put h2 l o o' ho hc, h3, h4, at_put h5 l o o' ho hc, at_put h6 l o o' ho hc, h7.trans (below_put o' ho (by omega))⟩
theorem IxQ_stays (w : World) (b : Nat) (hb : w.heap.size ≤ b) (c : Code) : Stays b (IxQ w c) where
  new := fun s A C ⟨h1, h2, h5, h6, h7⟩ hB => ⟨h1, h2, at_new h5 hB, at_new h6 hB, h7.trans (hB.mono h7.size)⟩
  put := fun s U l o o' hl ho hc ⟨h1, h2, h5, h6, h7⟩ => ⟨h1, h2, at_put h5 l o o' ho hc, at_put h6 l o o' ho hc, h7.trans (below_put o' ho (by omega))⟩
set_option maxRecDepth 10000 in
set_option maxHeartbeats 4000000 in
theorem change_ok (w : World) (a a2 : Option Addr) (n c n2 c2 : Nat) (vs ch : List Vd) (h : VIn w a n c vs) (h2 : VIn w a2 n2 c2 ch) (hn2 : n2 ≤ 1000000) (hc : chk vs = 0) (hg : chgE vs none ch = 0) :
    Calls Try.prog 53 #[.slice a n c, .slice a2 n2 c2] w (ChP w vs ch) := by
  have hlen := h.len
  have hlen2 := h2.len
  have hv64 : vs.length ≤ 64 := ((chk_up vs).1 hc).2.1
  obtain ⟨S, eS⟩ : ∃ S, S = w.heap.size := ⟨_, rfl⟩
  obtain ⟨W0, e0⟩ : ∃ X, X = (w.alloc (.cells #[.slice none 0 0] 80)).alloc (.cells #[.int .i64 0] 26) := ⟨_, rfl⟩
  have hb0 : Below w.heap.size w W0 := by rw [e0]; exact Below.alloc (Below.alloc (Below.refl _ _) (Nat.le_refl _) _) (by simp) _
  have HC := WirS.hide (check_any W0 a n c vs (h.below hb0))
  rw [hc] at HC
  have HG := WirS.hide (fun U (hU : Below w.heap.size w U) => checkChanges_any U a a2 n c n2 c2 vs ch (h.below hU) (h2.below hU) hn2)
  rw [hg] at HG
  have HB0 := WirS.hide hb0
  have E0 := WirS.hide e0
  refine (callsIn_wide (n := 5)).1 ?_
  refine callsIn_of_wp_marks Try.func53 rfl trivial ?_
  simp only [Try.ntmps53, List.size_toArray, List.length_cons, List.length_nil, Nat.reduceAdd, Nat.reduceSub, Array.replicate_succ, Array.replicate_zero, List.push_toArray, List.append_toArray, List.nil_append, List.cons_append]
  have hS0 : At W0 w.heap.size 80 [.slice none 0 0] := by rw [e0]; exact (At.new w _ _).alloc _
  have hS1 : At W0 (w.heap.size + 1) 26 [.int .i64 0] := by
    rw [e0]
    have := At.new (w.alloc (.cells #[.slice none 0 0] 80)) 26 [.int .i64 0]
    rw [World.size_alloc] at this
    exact this
  clear e0
  gi_wp2_with fail
  refine ⟨trivial, ?_⟩
  rw [← E0.out]
  refine (callsIn_wide.2 HC.out).mono ?_
  rintro e w1 ⟨rfl, hb1⟩
  have HB1 := WirS.hide (hb0.trans (hb1.mono hb0.size))
  have hS0 := at_new hS0 hb1
  have hS1 := at_new hS1 hb1
  clear hb1 E0 HC
  gi_wp2_with fail
  refine ⟨trivial, ?_⟩
  refine (callsIn_wide.2 (HG.out _ HB1.out)).mono ?_
  rintro e w2 ⟨rfl, hb2⟩
  have HB2 := WirS.hide (HB1.out.trans (hb2.mono HB1.out.size))
  have hS0 := at_new hS0 hb2
  have hS1 := at_new hS1 hb2
  clear hb2
  gi_wp2_with fail
  refine ⟨trivial, ?_⟩
  refine (callsIn_wide.2 (merge_any _ _ _ _ _ _ _)).mono ?_
  rintro e w3 ⟨rfl, hw3⟩
  obtain ⟨V, eV⟩ : ∃ V, V = w2.heap.size := ⟨_, rfl⟩
  have hVs : w.heap.size + 1 < V := by rw [eV]; exact hS1.lt
  have hb23 : Below w2.heap.size w2 w3 := by rw [hw3]; exact Below.alloc (Below.alloc (Below.alloc (Below.refl _ _) (Nat.le_refl _) _) (by simp) _) (by simp; omega) _
  have hV3 : At w3 V 80 [.slice none 0 0] := by rw [hw3, eV]; exact ((At.new w2 _ _).alloc _).alloc _
  have hA3 : At w3 (V + 1) 80 [.slice a n c] := by
    rw [hw3, eV]
    have := (At.new (w2.alloc (.cells #[.slice none 0 0] 80)) 80 [.slice a n c]).alloc (.cells #[.slice a2 n2 c2] 80)
    rw [World.size_alloc] at this
    exact this
  have hB3 : At w3 (V + 1 + 1) 80 [.slice a2 n2 c2] := by
    rw [hw3, eV]
    have := At.new ((w2.alloc (.cells #[.slice none 0 0] 80)).alloc (.cells #[.slice a n c] 80)) 80 [.slice a2 n2 c2]
    rw [World.size_alloc, World.size_alloc] at this
    exact this
  have hs3 : w3.heap.size = V + 3 := by rw [hw3, eV]; simp
  have HB3 := WirS.hide (HB2.out.trans (hb23.mono HB2.out.size))
  have hS0 := at_new hS0 hb23
  have hS1 := at_new hS1 hb23
  have hI0 : IQ w V [] w3 := ⟨_, hV3, OwnV.nil _, fun k hk => by simp [Value.ownBlock] at hk, by simp [flt], hS0, hS1, HB3.out⟩
  clear hw3
  gi_wp2_with fail
  rw [← eV]
  clear hb23 eS hS0 hS1 hV3 eV
  refine Seq2.range (gf := 188) (lb := #[.pointer (some ⟨V + 1, 0, none⟩), .pointer (some ⟨V + 1 + 1, 0, none⟩)]) rfl (enters_of Try.func188 (by kernel_rfl) rfl)
    (merge_gives _ w w3 HB3.out (V + 1) (V + 1 + 1) a a2 n c n2 c2 vs ch h h2 hA3 hB3) (by decide) (fun h k => Below.trans h k) (fun W l o o' hl ho => below_put o' ho (by omega)) (Below.refl _ _) (fun _ => rfl)
    (IQ w V) (IxQ w) (IQ_stays w V _ (by omega)) (IxQ_stays w _ (by omega)) hI0
    (fun x a' U => ∃ X, At U X 100 x.cells ∧ a' = { tmps := #[.slice a n c, .slice a2 n2 c2, undef, undef, .pointer (some ⟨w.heap.size, 0, none⟩), .pointer (some ⟨w.heap.size + 1, 0, none⟩), .int .i64 0, .int .i64 0, .pointer (some ⟨V, 0, none⟩), .pointer (some ⟨X, 0, none⟩), .slice a n c, .int .i64 0, .int .i64 0, .bool false, undef, .slice a n c, .slice a2 n2 c2, .int .i64 0, .int .i64 0, .bool false, undef, .slice a n c, .slice a2 n2 c2, .func (.func 188) #[] #[.pointer (some ⟨V + 1, 0, none⟩), .pointer (some ⟨V + 1 + 1, 0, none⟩)], .agg #[.int .u8 x.a, .int .u8 x.b, .int .u8 x.c, .int .u8 x.d, .int .i64 x.p], undef, undef, undef, undef, undef, undef, undef, undef, undef, undef, undef, undef, undef], defers := [] })
    (fun x a' U l o o' _ ho hc ⟨X, h1, h2⟩ => ⟨X, at_put h1 l o o' ho hc, h2⟩) ?assign ?body ?done ?stop
  case assign =>
    intro l pre x W K hi hsp hK
    unfold encV
    gi_wp2
    exact hK _ _ ((KeepsOthers.alloc W _).from _) (Below.alloc (Below.refl _ _) (by obtain ⟨_, _, _, _, _, _, _, h7⟩ := hi; exact h7.size) _) ((IQ_stays w V _ (Nat.le_refl _)).new _ _ _ hi (Below.alloc (Below.refl _ _) (Nat.le_refl _) _)) ⟨_, At.new W _ x.cells, rfl⟩
  case body =>
    rintro l pre x a' W ⟨v, hV, hO, hvk, h64, hS0, hS1, hB⟩ ⟨X, hX, rfl⟩ hsp hsz
    have hxm : x ∈ mrg vs ch := hsp.subset (by simp)
    have hxo : x.ok := (mrg_mem vs ch x hxm).elim (h.ok x) (h2.ok x)
    obtain ⟨va, vc, rfl⟩ := hO.len_of
    have hXf := fun (U : World) (hU : At U X 100 x.cells) => (show U.cell? ⟨X, 0, none⟩ = some (.int .u8 x.a) ∧ U.cell? ⟨X, 1, none⟩ = some (.int .u8 x.b) ∧ U.cell? ⟨X, 2, none⟩ = some (.int .u8 x.c) ∧ U.cell? ⟨X, 3, none⟩ = some (.int .u8 x.d) ∧ U.cell? ⟨X, 4, none⟩ = some (.int .i64 x.p) from ⟨hU.cell 0, hU.cell 1, hU.cell 2, hU.cell 3, hU.cell 4⟩)
    obtain ⟨r0, r1, r2, r3, r4⟩ := hXf W hX
    have HXF := WirS.hide hXf
    have HX := WirS.hide hX
    have HV := WirS.hide hV
    have HO := WirS.hide hO
    have HS0 := WirS.hide hS0
    have HS1 := WirS.hide hS1
    have HB := WirS.hide hB
    have HVK := WirS.hide hvk
    have HF1 := WirS.hide (flt_one pre x)
    have HXO := WirS.hide hxo
    have HR := WirS.hide (fun U => removes_any U x)
    obtain ⟨m, hm⟩ : ∃ m, (flt pre).length = m := ⟨_, rfl⟩
    rw [hm] at HV HO HVK h64
    have HM := WirS.hide hm
    clear hXf hX hV hO hS0 hS1 hB hvk hxm hxo h h2 hm hA3 hB3 hI0 hsp
    by_cases hp : x.p = 0
    · rw [show (x.p == 0) = true by simpa using hp] at HR
      rw [if_pos hp, List.append_nil] at HF1
      have HP := WirS.hide hp
      clear hp
      gi_wp2_with (refine ⟨trivial, ?_⟩; gi_at_call 145; refine (CallsIn.inRound l (callsIn_wide.2 (HR.out _))).mono ?_; rintro e u ⟨rfl, hb⟩; have HU := WirS.hide hb; clear hb)
      refine ⟨Keeps.below (KeepsFrom.refl _ _) HU.out, HU.out.mono HB.out.size, .slice va m vc, at_new HV.out HU.out, ?_, HVK.out, ?_, at_new HS0.out HU.out, at_new HS1.out HU.out, HB.out.trans (HU.out.mono HB.out.size)⟩
      · rw [HF1.out]
        exact HO.out.below HU.out
      · rw [HF1.out, HM.out]
        exact h64
    · rw [show (x.p == 0) = false by simpa using hp] at HR
      rw [if_neg hp] at HF1
      clear hp
      by_cases h6 : m = 64
      · subst h6
        gi_wp2_with (refine ⟨trivial, ?_⟩; gi_at_call 145; refine (CallsIn.inRound l (callsIn_wide.2 (HR.out _))).mono ?_; rintro e u ⟨rfl, hb⟩; have HU := WirS.hide hb; have c0 : u.cell? ⟨V, 0, none⟩ = some (.slice va 64 vc) := (at_new HV.out hb).cell 0; have s0 : u.cell? ⟨w.heap.size, 0, none⟩ = some (.slice none 0 0) := (at_new HS0.out hb).cell 0; have s1 : u.cell? ⟨w.heap.size + 1, 0, none⟩ = some (.int .i64 0) := (at_new HS1.out hb).cell 0; have f0 := (at_new HS0.out hb).frozen 0; have f1 := (at_new HS1.out hb).frozen 0; clear hb)
        refine ⟨((Keeps.below (KeepsFrom.refl _ _) HU.out).setCell _ _).setCell _ _, rfl, ?_, (at_new HS0.out HU.out).setCell 0 _ |>.setCell_other (by omega) _ _, ((at_new HS1.out HU.out).setCell_other (by omega) _ _).setCell 0 _, ((HB.out.trans (HU.out.mono HB.out.size)).setCell (p := ⟨w.heap.size, 0, none⟩) (Nat.le_refl _) _).setCell (p := ⟨w.heap.size + 1, 0, none⟩) (by show w.heap.size ≤ w.heap.size + 1; omega) _⟩
        rw [HF1.out, List.length_append, HM.out]
        simp
      · have g6 : ((m : Int) == 64) = false := by simp; omega
        gi_wp2_with (first | (refine ⟨trivial, ?_⟩; gi_at_call 145; refine (CallsIn.inRound l (callsIn_wide.2 (HR.out _))).mono ?_; rintro e u ⟨rfl, hb⟩; have HU := WirS.hide hb; have hVu := at_new HV.out hb; have c0 : u.cell? ⟨V, 0, none⟩ = some (.slice va m vc) := hVu.cell 0; have hXu := at_new HX.out hb; obtain ⟨q0, q1, q2, q3, q4⟩ := HXF.out u hXu; have hal : Below u.heap.size u (u.alloc (.cells #[.int .u8 x.a, .int .u8 x.b, .int .u8 x.c, .int .u8 x.d, .int .i64 x.p] 100)) := Below.alloc (Below.refl _ _) (Nat.le_refl _) _; obtain ⟨v', u', hrun, ho, hf, hn⟩ := app_vals (u.alloc (.cells #[.int .u8 x.a, .int .u8 x.b, .int .u8 x.c, .int .u8 x.d, .int .i64 x.p] 100)) 80 80 (.slice va m vc) (.slice (some ⟨u.heap.size, 0, none⟩) 1 1) _ [x] ((HO.out.below hb).below hal) (src_one Try.underlying80 _ 0 1 _ (fun j v hj => by rw [Nat.zero_add]; exact ((At.new u _ (Vd.cells x)).cell j).trans hj)) (fun y hy => by rw [List.mem_singleton.1 hy]; exact HXO.out) (by have := HM.out; simp; omega); obtain ⟨a5, c5, rfl⟩ := ho.len_of; obtain ⟨m5, hm5⟩ : ∃ m5, m5 = (flt pre ++ [x]).length := ⟨_, rfl⟩; rw [← hm5] at hrun ho hn; have HM5 := WirS.hide hm5; clear hm5; have hO2 := (HO.out.below hb).below hal; have hVn : ¬ (Value.slice va m vc).ownBlock = some V := (fun e => by have := HVK.out V e; omega); have hVu2 := At.fr (hVu.alloc (.cells #[.int .u8 x.a, .int .u8 x.b, .int .u8 x.c, .int .u8 x.d, .int .i64 x.p] 100)) hf hVn; have d0 : u'.cell? ⟨V, 0, none⟩ = some (.slice va m vc) := hVu2.cell 0; have fd0 := hVu2.frozen 0; have HRUN := WirS.hide hrun; have HO1 := WirS.hide ho; have HFr := WirS.hide hf; have HN1 := WirS.hide hn; have HA1 := WirS.hide hal; have HO2 := WirS.hide hO2; have HVu2 := WirS.hide hVu2; clear hb ho hf hn hal hrun hVu hXu hO2 hVn hVu2) | (gi_at_builtin; refine sAi rfl _ _ _ _ rfl _ _ rfl rfl (.slice a5 m5 c5) u' HRUN.out ?_))
        have hBu := HU.out.trans (HA1.out.mono HU.out.size)
        have hVB := HVu2.out.lt
        have hus := HB.out.size
        have hbu' : Below w.heap.size w u' := (HB.out.trans (hBu.mono hus)).trans (HFr.out.below (Nat.le_trans hus hBu.size) (fun q hq hx => by have := HVK.out q hx; omega))
        have hoff : ∀ k, k ≤ V → ¬ (Value.slice va m vc).ownBlock = some k := fun k hk e => by have := HVK.out k e; omega
        refine ⟨((Keeps.below (KeepsFrom.refl _ _) hBu).trans ((keeps_app HO2.out HFr.out).from _)).setCell _ _, ?_, .slice a5 m5 c5, HVu2.out.setCell 0 _, ?_, ?_, ?_, ?_, ?_, hbu'.setCell (p := ⟨V, 0, none⟩) (by show w.heap.size ≤ V; omega) _⟩
        · exact ((hBu.mono hus).trans (HFr.out.below (Nat.le_trans hus hBu.size) (fun q hq hx => by have := HVK.out q hx; omega))).setCell (p := ⟨V, 0, none⟩) (by show w.heap.size ≤ V; omega) _
        · rw [HF1.out]
          refine HO1.out.fr (X := fun q => q = V) ((Fr.refl _ u').setCell V 0 _ (fun _ => rfl)) (fun q hq hx => ?_)
          subst hx
          rcases HN1.out q hq with h3 | h3
          · exact hoff q (Nat.le_refl _) h3
          · have := HV.out.lt
            have := HU.out.size
            simp at h3
            omega
        · intro q hq
          rcases HN1.out q hq with h3 | h3
          · exact HVK.out q h3
          · have := HV.out.lt
            have := HU.out.size
            simp at h3
            omega
        · rw [HF1.out, List.length_append, HM.out]
          simp
          omega
        · exact (At.fr (at_new HS0.out hBu) HFr.out (hoff _ (by omega))).setCell_other (by omega) _ _
        · exact (At.fr (at_new HS1.out hBu) HFr.out (hoff _ (by omega))).setCell_other (by omega) _ _
  case done =>
    rintro D ys W hD rfl ⟨v, hV, hO, hvk, h64, hS0, hS1, hB⟩ hK
    obtain ⟨va, vc, rfl⟩ := hO.len_of
    obtain ⟨m, hm⟩ : ∃ m, (flt (mrg vs ch)).length = m := ⟨_, rfl⟩
    rw [hm] at hV hO hvk h64
    have c0 : W.cell? ⟨V, 0, none⟩ = some (.slice va m vc) := hV.cell 0
    have s0 : W.cell? ⟨w.heap.size, 0, none⟩ = some (.slice none 0 0) := hS0.cell 0
    have s1 : W.cell? ⟨w.heap.size + 1, 0, none⟩ = some (.int .i64 0) := hS1.cell 0
    have f0 := hS0.frozen 0
    have f1 := hS1.frozen 0
    have HO := WirS.hide hO
    have HVK := WirS.hide hvk
    have HK := WirS.hide hK
    have HB := WirS.hide hB
    have HS0 := WirS.hide hS0
    have HS1 := WirS.hide hS1
    by_cases h0 : m = 0
    · have HCh := WirS.hide (show chgd vs ch = (6, []) by unfold chgd; rw [if_neg (by simp [hc]), if_neg (by simp [hg]), if_pos (by omega)])
      have g0 : ((m : Int) == 0) = true := by simp [h0]
      clear h0 hm hV hO hvk hS0 hS1 hB hK h h2 hA3 hB3 hI0
      gi_wp2
      have hK5 := ((KeepsOthers.setCell W ⟨w.heap.size, 0, none⟩ (.slice none 0 0)).trans (KeepsOthers.setCell _ ⟨w.heap.size + 1, 0, none⟩ (.int .i64 6))).same D _ HK.out rfl
      have hA5 := at_put ((HS0.out.setCell 0 (.slice none 0 0)).setCell_other (X := w.heap.size + 1) (by omega) 0 (.int .i64 6)) D _ (.deferred none) hK5 rfl
      have hB5 := at_put ((HS1.out.setCell_other (X := w.heap.size) (by omega) 0 (.slice none 0 0)).setCell 0 (.int .i64 6)) D _ (.deferred none) hK5 rfl
      have k0 := hA5.cell 0
      have k1 := hB5.cell 0
      simp only [List.set_cons_zero, List.getElem?_cons_zero] at k0 k1
      refine ⟨by simp, .inl ⟨_, _, rfl, run_takeDeferred hK5, ?_⟩⟩
      refine ⟨.tuple #[.slice none 0 0, .int .i64 6], by simp [results, Try.results53, go_sem, k0, k1], ⟨_, _, _, by rw [HCh.out], ?_, ?_, ?_⟩⟩
      · rw [HCh.out]
        exact OwnV.nil _
      · intro q hq
        simp [Value.ownBlock] at hq
      · exact (((HB.out.setCell (p := ⟨w.heap.size, 0, none⟩) (Nat.le_refl _) _).setCell (p := ⟨w.heap.size + 1, 0, none⟩) (by show w.heap.size ≤ w.heap.size + 1; omega) _)).trans (below_put _ hK5 (by omega))
    · have HCh := WirS.hide (show chgd vs ch = (0, flt (mrg vs ch)) by unfold chgd; rw [if_neg (by simp [hc]), if_neg (by simp [hg]), if_neg (by omega), if_neg (by omega)])
      have g0 : ((m : Int) == 0) = false := by simp; omega
      clear h0 hm hV hO hvk hS0 hS1 hB hK h h2 hA3 hB3 hI0
      gi_wp2
      have hK5 := ((KeepsOthers.setCell W ⟨w.heap.size, 0, none⟩ (.slice va m vc)).trans (KeepsOthers.setCell _ ⟨w.heap.size + 1, 0, none⟩ (.int .i64 0))).same D _ HK.out rfl
      have hA5 := at_put ((HS0.out.setCell 0 (.slice va m vc)).setCell_other (X := w.heap.size + 1) (by omega) 0 (.int .i64 0)) D _ (.deferred none) hK5 rfl
      have hB5 := at_put ((HS1.out.setCell_other (X := w.heap.size) (by omega) 0 (.slice va m vc)).setCell 0 (.int .i64 0)) D _ (.deferred none) hK5 rfl
      have k0 := hA5.cell 0
      have k1 := hB5.cell 0
      simp only [List.set_cons_zero, List.getElem?_cons_zero] at k0 k1
      refine ⟨by simp, .inl ⟨_, _, rfl, run_takeDeferred hK5, ?_⟩⟩
      refine ⟨.tuple #[.slice va m vc, .int .i64 0], by simp [results, Try.results53, go_sem, k0, k1], ⟨_, _, _, by rw [HCh.out], ?_, ?_, ?_⟩⟩
      · rw [HCh.out]
        refine own_put (HO.out.fr (X := fun q => q = w.heap.size ∨ q = w.heap.size + 1) (((Fr.refl _ W).setCell w.heap.size 0 _ (fun _ => .inl rfl)).setCell (w.heap.size + 1) 0 _ (fun _ => .inr rfl)) (fun q hq hx => ?_)) D _ (.deferred none) hK5 rfl
        have := HVK.out q hq
        omega
      · intro q hq
        have := HVK.out q hq
        omega
      · exact (((HB.out.setCell (p := ⟨w.heap.size, 0, none⟩) (Nat.le_refl _) _).setCell (p := ⟨w.heap.size + 1, 0, none⟩) (by show w.heap.size ≤ w.heap.size + 1; omega) _)).trans (below_put _ hK5 (by omega))
  case stop =>
    rintro D c pre W hD hsp ⟨rfl, h64, hS0, hS1, hB⟩ hK
    have HCh := WirS.hide (show chgd vs ch = (7, []) by
      have := flt_le hsp
      unfold chgd
      rw [if_neg (by simp [hc]), if_neg (by simp [hg]), if_neg (by omega), if_pos (by omega)])
    gi_wp2
    have hA5 := at_put hS0 D _ (.deferred none) hK rfl
    have hB5 := at_put hS1 D _ (.deferred none) hK rfl
    have k0 := hA5.cell 0
    have k1 := hB5.cell 0
    simp only [List.getElem?_cons_zero] at k0 k1
    refine ⟨by simp, .inl ⟨_, _, rfl, run_takeDeferred hK, ?_⟩⟩
    refine ⟨.tuple #[.slice none 0 0, .int .i64 7], by simp [results, Try.results53, go_sem, k0, k1], ⟨_, _, _, by rw [HCh.out], ?_, ?_, ?_⟩⟩
    · rw [HCh.out]
      exact OwnV.nil _
    · intro q hq
      simp [Value.ownBlock] at hq
    · exact hB.trans (below_put _ hK (by omega))
end ValQ
end Go.Proofs.Ytackcnncjeajpaa

namespace Go.Proofs.Ytackcnncjeajpaa
namespace ValR
open Go.RowKit
open BlkM WirM WirS WirA WirB ValA ValB ValC ValD ValE ValH ValP ValM ValN ValO ValQ
open Go.Proofs.Ytackcnncjeajpaa.Seq2
attribute [local go_sem] Oper.semAt_some

set_option maxRecDepth 10000 in
set_option maxHeartbeats 4000000 in
theorem change_bad1 (w : World) (a a2 : Option Addr) (n c n2 c2 : Nat) (vs ch : List Vd) (h : VIn w a n c vs) (h2 : VIn w a2 n2 c2 ch) (hn2 : n2 ≤ 1000000) (hc : chk vs ≠ 0) :
    Calls Try.prog 53 #[.slice a n c, .slice a2 n2 c2] w (ChP w vs ch) := by
  obtain ⟨W0, e0⟩ : ∃ X, X = (w.alloc (.cells #[.slice none 0 0] 80)).alloc (.cells #[.int .i64 0] 26) := ⟨_, rfl⟩
  have hb0 : Below w.heap.size w W0 := by rw [e0]; exact Below.alloc (Below.alloc (Below.refl _ _) (Nat.le_refl _) _) (by simp) _
  have HCh := WirS.hide (show chgd vs ch = (chk vs, []) from by unfold chgd; rw [if_pos (by simpa using hc)])
  have HC := WirS.hide (check_any W0 a n c vs (h.below hb0))
  have HG := WirS.hide (fun U (hU : Below w.heap.size w U) => checkChanges_any U a a2 n c n2 c2 vs ch (h.below hU) (h2.below hU) hn2)
  generalize chk vs = cd at *
  have hn0 : (cd == 0) = false := by simpa using hc
  have hn1 : (cd != 0) = true := by simpa using hc
  have E0 := WirS.hide e0
  have hS0 : At W0 w.heap.size 80 [.slice none 0 0] := by rw [e0]; exact (At.new w _ _).alloc _
  have hS1 : At W0 (w.heap.size + 1) 26 [.int .i64 0] := by
    rw [e0]
    have := At.new (w.alloc (.cells #[.slice none 0 0] 80)) 26 [.int .i64 0]
    rw [World.size_alloc] at this
    exact this
  clear e0 hc
  refine (callsIn_wide (n := 5)).1 ?_
  refine callsIn_of_wp_marks Try.func53 rfl trivial ?_
  simp only [Try.ntmps53, List.size_toArray, List.length_cons, List.length_nil, Nat.reduceAdd, Nat.reduceSub, Array.replicate_succ, Array.replicate_zero, List.push_toArray, List.append_toArray, List.nil_append, List.cons_append]
  gi_wp2_with fail
  refine ⟨trivial, ?_⟩
  rw [← E0.out]
  refine (callsIn_wide.2 HC.out).mono ?_
  rintro e w1 ⟨rfl, hb1⟩
  have HB1 := WirS.hide (hb0.trans (hb1.mono hb0.size))
  have hS0 := at_new hS0 hb1
  have hS1 := at_new hS1 hb1
  clear hb1 E0 HC
  skip
  have s0 := hS0.cell 0
  have s1 := hS1.cell 0
  have f0 := hS0.frozen 0
  have f1 := hS1.frozen 0
  simp only [List.getElem?_cons_zero] at s0 s1
  have HS0 := WirS.hide hS0
  have HS1 := WirS.hide hS1
  clear hS0 hS1
  gi_wp2
  have hA5 := (HS0.out.setCell 0 (.slice none 0 0)).setCell_other (X := w.heap.size + 1) (by omega) 0 (.int .i64 cd)
  have hB5 := (HS1.out.setCell_other (X := w.heap.size) (by omega) 0 (.slice none 0 0)).setCell 0 (.int .i64 cd)
  have k0 := hA5.cell 0
  have k1 := hB5.cell 0
  simp only [List.set_cons_zero, List.getElem?_cons_zero] at k0 k1
  refine ⟨.tuple #[.slice none 0 0, .int .i64 cd], by simp [results, Try.results53, go_sem, k0, k1], ⟨_, _, _, by rw [HCh.out], ?_, ?_, ?_⟩⟩
  · rw [HCh.out]
    exact OwnV.nil _
  · intro q hq
    simp [Value.ownBlock] at hq
  · exact ((HB1.out.setCell (p := ⟨w.heap.size, 0, none⟩) (Nat.le_refl _) _).setCell (p := ⟨w.heap.size + 1, 0, none⟩) (by show w.heap.size ≤ w.heap.size + 1; omega) _)
set_option maxRecDepth 10000 in
set_option maxHeartbeats 4000000 in
theorem change_bad2 (w : World) (a a2 : Option Addr) (n c n2 c2 : Nat) (vs ch : List Vd) (h : VIn w a n c vs) (h2 : VIn w a2 n2 c2 ch) (hn2 : n2 ≤ 1000000) (hc0 : chk vs = 0) (hc : chgE vs none ch ≠ 0) :
    Calls Try.prog 53 #[.slice a n c, .slice a2 n2 c2] w (ChP w vs ch) := by
  obtain ⟨W0, e0⟩ : ∃ X, X = (w.alloc (.cells #[.slice none 0 0] 80)).alloc (.cells #[.int .i64 0] 26) := ⟨_, rfl⟩
  have hb0 : Below w.heap.size w W0 := by rw [e0]; exact Below.alloc (Below.alloc (Below.refl _ _) (Nat.le_refl _) _) (by simp) _
  have HCh := WirS.hide (show chgd vs ch = (chgE vs none ch, []) from by unfold chgd; rw [if_neg (by simp [hc0]), if_pos (by simpa using hc)])
  have HC := WirS.hide (check_any W0 a n c vs (h.below hb0))
  have HG := WirS.hide (fun U (hU : Below w.heap.size w U) => checkChanges_any U a a2 n c n2 c2 vs ch (h.below hU) (h2.below hU) hn2)
  generalize chgE vs none ch = cd at *
  rw [hc0] at HC
  have hn0 : (cd == 0) = false := by simpa using hc
  have hn1 : (cd != 0) = true := by simpa using hc
  have E0 := WirS.hide e0
  have hS0 : At W0 w.heap.size 80 [.slice none 0 0] := by rw [e0]; exact (At.new w _ _).alloc _
  have hS1 : At W0 (w.heap.size + 1) 26 [.int .i64 0] := by
    rw [e0]
    have := At.new (w.alloc (.cells #[.slice none 0 0] 80)) 26 [.int .i64 0]
    rw [World.size_alloc] at this
    exact this
  clear e0 hc
  refine (callsIn_wide (n := 5)).1 ?_
  refine callsIn_of_wp_marks Try.func53 rfl trivial ?_
  simp only [Try.ntmps53, List.size_toArray, List.length_cons, List.length_nil, Nat.reduceAdd, Nat.reduceSub, Array.replicate_succ, Array.replicate_zero, List.push_toArray, List.append_toArray, List.nil_append, List.cons_append]
  gi_wp2_with fail
  refine ⟨trivial, ?_⟩
  rw [← E0.out]
  refine (callsIn_wide.2 HC.out).mono ?_
  rintro e w1 ⟨rfl, hb1⟩
  have HB1 := WirS.hide (hb0.trans (hb1.mono hb0.size))
  have hS0 := at_new hS0 hb1
  have hS1 := at_new hS1 hb1
  clear hb1 E0 HC
  gi_wp2_with fail
  refine ⟨trivial, ?_⟩
  refine (callsIn_wide.2 (HG.out _ HB1.out)).mono ?_
  rintro e w2 ⟨rfl, hb2⟩
  have HB1 := WirS.hide (HB1.out.trans (hb2.mono HB1.out.size))
  have hS0 := at_new hS0 hb2
  have hS1 := at_new hS1 hb2
  clear hb2 HG
  have s0 := hS0.cell 0
  have s1 := hS1.cell 0
  have f0 := hS0.frozen 0
  have f1 := hS1.frozen 0
  simp only [List.getElem?_cons_zero] at s0 s1
  have HS0 := WirS.hide hS0
  have HS1 := WirS.hide hS1
  clear hS0 hS1
  gi_wp2
  have hA5 := (HS0.out.setCell 0 (.slice none 0 0)).setCell_other (X := w.heap.size + 1) (by omega) 0 (.int .i64 cd)
  have hB5 := (HS1.out.setCell_other (X := w.heap.size) (by omega) 0 (.slice none 0 0)).setCell 0 (.int .i64 cd)
  have k0 := hA5.cell 0
  have k1 := hB5.cell 0
  simp only [List.set_cons_zero, List.getElem?_cons_zero] at k0 k1
  refine ⟨.tuple #[.slice none 0 0, .int .i64 cd], by simp [results, Try.results53, go_sem, k0, k1], ⟨_, _, _, by rw [HCh.out], ?_, ?_, ?_⟩⟩
  · rw [HCh.out]
    exact OwnV.nil _
  · intro q hq
    simp [Value.ownBlock] at hq
  · exact ((HB1.out.setCell (p := ⟨w.heap.size, 0, none⟩) (Nat.le_refl _) _).setCell (p := ⟨w.heap.size + 1, 0, none⟩) (by show w.heap.size ≤ w.heap.size + 1; omega) _)
theorem change_any (w : World) (a a2 : Option Addr) (n c n2 c2 : Nat) (vs ch : List Vd) (h : VIn w a n c vs) (h2 : VIn w a2 n2 c2 ch) (hn2 : n2 ≤ 1000000) :
    Calls Try.prog 53 #[.slice a n c, .slice a2 n2 c2] w (ChP w vs ch) := by
  by_cases hc : chk vs = 0
  · by_cases hg : chgE vs none ch = 0
    · exact change_ok w a a2 n c n2 c2 vs ch h h2 hn2 hc hg
    · exact change_bad2 w a a2 n c n2 c2 vs ch h h2 hn2 hc hg
  · exact change_bad1 w a a2 n c n2 c2 vs ch h h2 hn2 hc
end ValR
end Go.Proofs.Ytackcnncjeajpaa

