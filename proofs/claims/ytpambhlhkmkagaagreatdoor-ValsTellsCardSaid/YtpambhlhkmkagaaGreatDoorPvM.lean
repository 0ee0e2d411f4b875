/-
  ValB, ValC, ValD, ValE, ValF, ValP, in one text.
-/
import Derived.Test.YtpambhlhkmkagaaGreatDoorPvK
import Derived.ChangeKeysEq
import Derived.Lib.BytesEntry
import Derived.Test.YtpambhlhkmkagaaGreatDoorPvD
import Derived.Test.YtpambhlhkmkagaaGreatDoorPvI
import Derived.Laws.StructEq
import Derived.Test.YtpambhlhkmkagaaGreatDoorBlkM
import Derived.Test.YtpambhlhkmkagaaGreatDoorWirM
import Derived.Test.YtpambhlhkmkagaaGreatDoorWirS
namespace Go.Proofs.YtpambhlhkmkagaaGreatDoor
namespace ValB
open Go.RowKit Go.Lib
open BlkM WirM WirS ValA

def bts (l : List Int) : List UInt8 := l.map fun n => n.toNat.toUInt8
def cmpI (l m : List Int) : Int := compareBytes (bts l) (bts m)
theorem acmp (g h : Nat) (l m : List Int) (hl : l.length = 4) (hm : m.length = 4) (W : World) (a : At W g 24 (b8 l)) (b : At W h 24 (b8 m)) :
    (callFunc 98 #[.slice (some ⟨g, 0, none⟩) 4 4, .slice (some ⟨h, 0, none⟩) 4 4]).run Tryz.prog W = .ok (.value (.int .i64 (cmpI l m))) W := by
  have ld : ∀ (x : Nat) (z : List Int), z.length = 4 → At W x 24 (b8 z) → (Extern.Bytes.bytesOf (.slice (some ⟨x, 0, none⟩) 4 4)).run Tryz.prog W = .ok ⟨(bts z).toArray⟩ W := fun x z hz hx => by
    have := run_loadBytesX (P := Tryz.prog) W z ⟨x, 0, none⟩ .empty (fun j y hj => by
      have hjl : j < z.length := (List.getElem?_eq_some_iff.1 hj).1
      rw [Addr.add_mid, Nat.zero_add, hx.cell, b8_get z j hjl, List.getD_eq_getElem?_getD, hj]
      rfl)
    rw [hz] at this
    simp only [Extern.Bytes.bytesOf]
    rw [this]
    congr 1
    apply ByteArray.ext
    simp [Lib.bytesOf, bts]
  rw [run_callFunc_extern Tryz.func98 (by kernel_rfl) (by kernel_rfl) (by kernel_rfl) (e := Extern.BytealgCompare.compare) (by kernel_rfl)]
  have h2 : (Extern.BytealgCompare.compare #[.slice (some ⟨g, 0, none⟩) 4 4, .slice (some ⟨h, 0, none⟩) 4 4]).run Tryz.prog W = .ok (.int .i64 (cmpI l m)) W := by
    change Sem.run Tryz.prog (do pure (goInt (Extern.BytealgCompare.cmp (← Extern.Bytes.bytesOf (.slice (some ⟨g, 0, none⟩) 4 4)) (← Extern.Bytes.bytesOf (.slice (some ⟨h, 0, none⟩) 4 4))))) W = _
    simp only [Sem.run_bind, Sem.run_pure, Result.andThen, ld g l hl a, ld h m hm b]
    rw [cmp_eq]
    rfl
  rw [h2]
  rfl
set_option maxHeartbeats 400000 in
theorem bcmp_any (g h : Nat) (l m : List Int) (hl : l.length = 4) (hm : m.length = 4) (w : World) (a : At w g 24 (b8 l)) (b : At w h 24 (b8 m)) :
    Calls Tryz.prog 83 #[.slice (some ⟨g, 0, none⟩) 4 4, .slice (some ⟨h, 0, none⟩) 4 4] w fun e w' => e = .returned (.int .i64 (cmpI l m)) ∧ w = w' := by
  have H := acmp g h l m hl hm w a b
  clear a b
  generalize cmpI l m = r at *
  go_enter Tryz.func83, Tryz.ntmps83
  go_wp2
  go_ret
  exact ⟨rfl, rfl⟩
theorem u8_lt (a b : Nat) (ha : a < 256) (hb : b < 256) : (a.toUInt8 < b.toUInt8) ↔ a < b := by
  rw [UInt8.lt_iff_toNat_lt]
  simp [Nat.mod_eq_of_lt ha, Nat.mod_eq_of_lt hb]
theorem cmp_cons (x y : Int) (l m : List Int) (hx : 0 ≤ x ∧ x < 256) (hy : 0 ≤ y ∧ y < 256) : cmpI (x :: l) (y :: m) = if x < y then -1 else if y < x then 1 else cmpI l m := by
  show (if x.toNat.toUInt8 < y.toNat.toUInt8 then (-1 : Int) else if y.toNat.toUInt8 < x.toNat.toUInt8 then 1 else compareBytes (bts l) (bts m)) = _
  simp only [u8_lt _ _ (show x.toNat < 256 by omega) (show y.toNat < 256 by omega), u8_lt _ _ (show y.toNat < 256 by omega) (show x.toNat < 256 by omega), show x.toNat < y.toNat ↔ x < y by omega, show y.toNat < x.toNat ↔ y < x by omega]
  rfl
/-- Which of two numbers is less. -/
def cmpR (r s : Int) : Int := if r < s then -1 else if s < r then 1 else 0
theorem cmpR_le (r s : Int) : cmpR r s ≤ 0 ↔ r ≤ s := by unfold cmpR; split <;> (try split) <;> omega
theorem cmpR_lt (r s : Int) : cmpR r s < 0 ↔ r < s := by unfold cmpR; split <;> (try split) <;> omega
theorem cmp_key {x y : Vd} (hx : x.ok) (hy : y.ok) : cmpI x.key y.key = cmpR x.rk y.rk := by
  obtain ⟨a, b, c, d, _⟩ := hx
  obtain ⟨a', b', c', d', _⟩ := hy
  unfold Vd.key
  rw [cmp_cons _ _ _ _ a a', cmp_cons _ _ _ _ b b', cmp_cons _ _ _ _ c c', cmp_cons _ _ _ _ d d', show cmpI [] [] = 0 from rfl]
  unfold cmpR Vd.rk
  repeat' split
  all_goals omega
/-- A key as a value. -/
def Vd.keyV (x : Vd) : Value := .agg #[.int .u8 x.a, .int .u8 x.b, .int .u8 x.c, .int .u8 x.d]
set_option maxRecDepth 10000 in
set_option maxHeartbeats 1000000 in
theorem compare_b8 (w : World) (l m : List Int) (hl : l.length = 4) (hm : m.length = 4) :
    Calls Tryz.prog 62 #[.agg (b8 l).toArray, .agg (b8 m).toArray] w fun e w' => e = .returned (.int .i64 (cmpI l m)) ∧ Below w.heap.size w w' := by
  obtain ⟨W0, eW0⟩ : ∃ X, X = (w.alloc (.cells (b8 l).toArray 24)).alloc (.cells (b8 m).toArray 24) := ⟨_, rfl⟩
  have hA : At W0 w.heap.size 24 (b8 l) := by rw [eW0]; exact At.alloc (At.new w _ _) _
  have hB : At W0 (w.heap.size + 1) 24 (b8 m) := by
    rw [eW0]
    have := At.new (w.alloc (.cells (b8 l).toArray 24)) 24 (b8 m)
    rw [World.size_alloc] at this
    exact this
  have hb0 : Below w.heap.size w W0 := by rw [eW0]; exact Below.alloc (Below.alloc (Below.refl _ _) (Nat.le_refl _) _) (by simp) _
  have HC := WirS.hide (bcmp_any w.heap.size (w.heap.size + 1) l m hl hm W0.drew hA hB)
  have HB0 := WirS.hide hb0.drew
  have E0 := WirS.hide eW0
  have hsl : ∀ (g : Nat) (Y : World), (Instr.sliceAt 24 (.pointer (some ⟨g, 0, none⟩)) none none none).run Tryz.prog Y = .ok (.slice (some ⟨g, 0, none⟩) 4 4) Y := by
    intro g Y
    kernel_rfl
  clear eW0 hA hB hb0
  go_enter Tryz.func62, Tryz.ntmps62
  go_upto_region 1 with (fail)
  rw [← E0.out]
  go_still_tail 2, (by kernel_rfl)
  go_wp2_with ((go_at_call 83; refine (show Calls _ _ _ _ _ from HC.out).mono ?_; rintro e w1 ⟨rfl, rfl⟩))
  go_ret
  exact ⟨rfl, HB0.out⟩
theorem compare_any (w : World) (x y : Vd) (hx : x.ok) (hy : y.ok) :
    Calls Tryz.prog 62 #[Vd.keyV x, Vd.keyV y] w fun e w' => e = .returned (.int .i64 (cmpR x.rk y.rk)) ∧ Below w.heap.size w w' := by
  have h := compare_b8 w x.key y.key rfl rfl
  rw [cmp_key hx hy] at h
  exact h

/-! ### row.next -/
/-- A row's cells: the least power, the validator that came last. -/
def rcl (least : Int) : Option Vd → List Value
  | none => [.int .i64 least, .bool false, .int .u8 0, .int .u8 0, .int .u8 0, .int .u8 0]
  | some q => [.int .i64 least, .bool true, .int .u8 q.a, .int .u8 q.b, .int .u8 q.c, .int .u8 q.d]
/-- It does not come behind the one before. -/
def late : Option Vd → Vd → Bool
  | none, _ => false
  | some q, v => decide (v.rk ≤ q.rk)
def nextE (least : Int) (q : Option Vd) (v : Vd) : Int :=
  if late q v = true then 9 else if v.p < least ∨ 4611686018427387904 < v.p then 3 else 0
def Vd.val (v : Vd) : Value := .agg #[.int .u8 v.a, .int .u8 v.b, .int .u8 v.c, .int .u8 v.d, .int .i64 v.p]
def NextP (w : World) (R : Nat) (least : Int) (q : Option Vd) (v : Vd) (e : Ending) (w' : World) : Prop :=
  e = .returned (.int .i64 (nextE least q v)) ∧ At w' R 70 (rcl least (if nextE least q v = 0 then some v else q)) ∧ Fr (fun k => k = R) w w'
end ValB
end Go.Proofs.YtpambhlhkmkagaaGreatDoor

namespace Go.Proofs.YtpambhlhkmkagaaGreatDoor
namespace ValC
open Go.RowKit
open BlkM WirM WirS WirA WirB ValA ValB

theorem keepAt {w w1 : World} {R : Nat} {T : TypeId} {cs : List Value} (h : At w R T cs) (hb : Below w.heap.size w w1) : At w1 R T cs := h.below hb h.lt
theorem nextP_ok {w W : World} {R : Nat} {least : Int} {q : Option Vd} {v : Vd} (hE : nextE least q v = 0) (hA : At W R 70 (rcl least (some v))) (hF : Fr (fun k => k = R) w W) : NextP w R least q v (.returned (.int .i64 0)) W := by
  refine ⟨by rw [hE], ?_, hF⟩
  rw [hE, if_pos rfl]
  exact hA
theorem nextP_of {w W : World} {R : Nat} {least : Int} {q : Option Vd} {v : Vd} {c : Int} (hE : nextE least q v = c) (hc : ¬ c = 0) (hA : At W R 70 (rcl least q)) (hF : Fr (fun k => k = R) w W) : NextP w R least q v (.returned (.int .i64 c)) W := by
  refine ⟨by rw [hE], ?_, hF⟩
  rw [hE, if_neg hc]
  exact hA
set_option maxRecDepth 10000 in
set_option maxHeartbeats 2000000 in
theorem next_range (w : World) (R : Nat) (least : Int) (v : Vd) (h : At w R 70 (rcl least none)) (hp : v.p < least ∨ 4611686018427387904 < v.p) :
    Calls Tryz.prog 36 #[.pointer (some ⟨R, 0, none⟩), Vd.val v] w (NextP w R least none v) := by
  have hE : nextE least none v = 3 := by unfold nextE late; simp [hp]
  have HE := WirS.hide hE
  obtain ⟨W0, e0⟩ : ∃ X, X = w.alloc (.cells #[.int .u8 v.a, .int .u8 v.b, .int .u8 v.c, .int .u8 v.d, .int .i64 v.p] 55) := ⟨_, rfl⟩
  have hR0 : At W0 R 70 (rcl least none) := by rw [e0]; exact h.alloc _
  have hA : At W0 w.heap.size 55 v.cells := by rw [e0]; exact At.new w _ _
  have c0 : W0.cell? ⟨R, 0, none⟩ = some (.int .i64 least) := hR0.cell 0
  have c1 : W0.cell? ⟨R, 1, none⟩ = some (.bool false) := hR0.cell 1
  have a4 : W0.cell? ⟨w.heap.size, 4, none⟩ = some (.int .i64 v.p) := hA.cell 4
  have hF := WirS.hide (show Fr (fun k => k = R) w W0 by rw [e0]; exact (Fr.refl _ w).alloc _)
  have HR := WirS.hide hR0
  have E0 := WirS.hide e0
  clear h e0 hE hA hR0
  unfold Vd.val
  go_enter Tryz.func36, Tryz.ntmps36
  go_upto_region 1 with fail
  rw [← E0.out]
  clear E0
  rcases hp with hp | hp
  · have hd : decide (v.p < least) = true := by simpa using hp
    generalize w.heap.size = X at *
    go_quiet (fail)
    go_upto_region 3 with fail
    go_quiet (fail)
    go_wp2_with fail
    go_ret
    exact nextP_of HE.out (by decide) HR.out (by first | exact WirB.Fr.drewN (WirB.Fr.drewN hF.out _) _ | exact WirB.Fr.drewN hF.out _)
  · by_cases hl : v.p < least
    · have hd : decide (v.p < least) = true := by simpa using hl
      generalize w.heap.size = X at *
      go_quiet (fail)
      go_upto_region 3 with fail
      go_quiet (fail)
      go_wp2_with fail
      go_ret
      exact nextP_of HE.out (by decide) HR.out (by first | exact WirB.Fr.drewN (WirB.Fr.drewN hF.out _) _ | exact WirB.Fr.drewN hF.out _)
    · have hd : decide (v.p < least) = false := by simpa using hl
      have hd2 : decide (4611686018427387904 < v.p) = true := by simpa using hp
      generalize w.heap.size = X at *
      go_quiet (fail)
      go_upto_region 3 with fail
      go_quiet (fail)
      go_wp2_with fail
      go_ret
      exact nextP_of HE.out (by decide) HR.out (by first | exact WirB.Fr.drewN (WirB.Fr.drewN hF.out _) _ | exact WirB.Fr.drewN hF.out _)
set_option maxRecDepth 10000 in
set_option maxHeartbeats 2000000 in
theorem next_first (w : World) (R : Nat) (least : Int) (v : Vd) (h : At w R 70 (rcl least none)) (hp : ¬ (v.p < least ∨ 4611686018427387904 < v.p)) :
    Calls Tryz.prog 36 #[.pointer (some ⟨R, 0, none⟩), Vd.val v] w (NextP w R least none v) := by
  have hE : nextE least none v = 0 := by unfold nextE late; simp; omega
  have HE := WirS.hide hE
  obtain ⟨W0, e0⟩ : ∃ X, X = w.alloc (.cells #[.int .u8 v.a, .int .u8 v.b, .int .u8 v.c, .int .u8 v.d, .int .i64 v.p] 55) := ⟨_, rfl⟩
  have hR0 : At W0 R 70 (rcl least none) := by rw [e0]; exact h.alloc _
  have hA : At W0 w.heap.size 55 v.cells := by rw [e0]; exact At.new w _ _
  have c0 : W0.cell? ⟨R, 0, none⟩ = some (.int .i64 least) := hR0.cell 0
  have c1 : W0.cell? ⟨R, 1, none⟩ = some (.bool false) := hR0.cell 1
  have a4 : W0.cell? ⟨w.heap.size, 4, none⟩ = some (.int .i64 v.p) := hA.cell 4
  have hF := WirS.hide (show Fr (fun k => k = R) w W0 by rw [e0]; exact (Fr.refl _ w).alloc _)
  have HR := WirS.hide hR0
  have HA := WirS.hide hA
  have E0 := WirS.hide e0
  have hd : decide (v.p < least) = false := by simp; omega
  have hd2 : decide (4611686018427387904 < v.p) = false := by simp; omega
  have hne := h.lt
  clear h e0 hE hA hR0 hp
  unfold Vd.val
  go_enter Tryz.func36, Tryz.ntmps36
  go_upto_region 1 with fail
  rw [← E0.out]
  clear E0
  generalize w.heap.size = X at *
  go_quiet (fail)
  go_upto_region 3 with fail
  go_quiet (fail)
  go_upto_region 5 with fail
  generalize hW : World.drewN (World.drewN W0 _) _ = W1
  have hR1 : At W1 R 70 (rcl least none) := by rw [← hW]; exact HR.out
  have hA1 : At W1 X 55 v.cells := by rw [← hW]; exact HA.out
  have HF1 := WirS.hide (show Fr (fun k => k = R) w W1 by rw [← hW]; first | exact WirB.Fr.drewN (WirB.Fr.drewN hF.out _) _ | exact WirB.Fr.drewN hF.out _)
  clear c0 c1 a4 HR HA hF hW
  have c0 : W1.cell? ⟨R, 0, none⟩ = some (.int .i64 least) := hR1.cell 0
  have c1 : W1.cell? ⟨R, 1, none⟩ = some (.bool false) := hR1.cell 1
  have c2 : W1.cell? ⟨R, 2, none⟩ = some (.int .u8 0) := hR1.cell 2
  have c3 : W1.cell? ⟨R, 3, none⟩ = some (.int .u8 0) := hR1.cell 3
  have c4 : W1.cell? ⟨R, 4, none⟩ = some (.int .u8 0) := hR1.cell 4
  have c5 : W1.cell? ⟨R, 5, none⟩ = some (.int .u8 0) := hR1.cell 5
  have f1 := hR1.frozen 1
  have f2 := hR1.frozen 2
  have f3 := hR1.frozen 3
  have f4 := hR1.frozen 4
  have f5 := hR1.frozen 5
  have a0 : W1.cell? ⟨X, 0, none⟩ = some (.int .u8 v.a) := hA1.cell 0
  have a1 : W1.cell? ⟨X, 1, none⟩ = some (.int .u8 v.b) := hA1.cell 1
  have a2 : W1.cell? ⟨X, 2, none⟩ = some (.int .u8 v.c) := hA1.cell 2
  have a3 : W1.cell? ⟨X, 3, none⟩ = some (.int .u8 v.d) := hA1.cell 3
  have HR1 := WirS.hide hR1
  clear hR1 hA1
  go_region
  go_wp2_with fail
  go_ret
  exact nextP_ok HE.out (((((HR1.out.setCell 1 _).setCell 2 _).setCell 3 _).setCell 4 _).setCell 5 _) ((((((HF1.out.setCell R 1 _ (fun _ => rfl)).setCell R 2 _ (fun _ => rfl)).setCell R 3 _ (fun _ => rfl)).setCell R 4 _ (fun _ => rfl)).setCell R 5 _ (fun _ => rfl)).drew)
set_option maxRecDepth 10000 in
set_option maxHeartbeats 2000000 in
theorem next_late (w : World) (R : Nat) (least : Int) (q v : Vd) (hq : q.ok) (hv : v.ok) (h : At w R 70 (rcl least (some q))) (hl : v.rk ≤ q.rk) :
    Calls Tryz.prog 36 #[.pointer (some ⟨R, 0, none⟩), Vd.val v] w (NextP w R least (some q) v) := by
  have hE : nextE least (some q) v = 9 := by unfold nextE late; simp [hl]
  have HE := WirS.hide hE
  have HC := WirS.hide (fun U => show Calls Tryz.prog 62 #[.agg #[.int .u8 v.a, .int .u8 v.b, .int .u8 v.c, .int .u8 v.d], .agg #[.int .u8 q.a, .int .u8 q.b, .int .u8 q.c, .int .u8 q.d]] U (fun e w' => e = .returned (.int .i64 (cmpR v.rk q.rk)) ∧ Below U.heap.size U w') from compare_any U v q hv hq)
  have hK : cmpR v.rk q.rk ≤ 0 := (cmpR_le _ _).2 hl
  clear hl
  generalize cmpR v.rk q.rk = K at *
  obtain ⟨W0, e0⟩ : ∃ X, X = w.alloc (.cells #[.int .u8 v.a, .int .u8 v.b, .int .u8 v.c, .int .u8 v.d, .int .i64 v.p] 55) := ⟨_, rfl⟩
  have hR0 : At W0 R 70 (rcl least (some q)) := by rw [e0]; exact h.alloc _
  have hA : At W0 w.heap.size 55 v.cells := by rw [e0]; exact At.new w _ _
  have c1 : W0.cell? ⟨R, 1, none⟩ = some (.bool true) := hR0.cell 1
  have c2 : W0.cell? ⟨R, 2, none⟩ = some (.int .u8 q.a) := hR0.cell 2
  have c3 : W0.cell? ⟨R, 3, none⟩ = some (.int .u8 q.b) := hR0.cell 3
  have c4 : W0.cell? ⟨R, 4, none⟩ = some (.int .u8 q.c) := hR0.cell 4
  have c5 : W0.cell? ⟨R, 5, none⟩ = some (.int .u8 q.d) := hR0.cell 5
  have a0 : W0.cell? ⟨w.heap.size, 0, none⟩ = some (.int .u8 v.a) := hA.cell 0
  have a1 : W0.cell? ⟨w.heap.size, 1, none⟩ = some (.int .u8 v.b) := hA.cell 1
  have a2 : W0.cell? ⟨w.heap.size, 2, none⟩ = some (.int .u8 v.c) := hA.cell 2
  have a3 : W0.cell? ⟨w.heap.size, 3, none⟩ = some (.int .u8 v.d) := hA.cell 3
  have HF := WirS.hide (show Fr (fun k => k = R) w W0 by rw [e0]; exact (Fr.refl _ w).alloc _)
  have HR := WirS.hide hR0
  have HA := WirS.hide hA
  have E0 := WirS.hide e0
  have hne := h.lt
  clear h e0 hE hA hR0
  unfold Vd.val
  go_enter Tryz.func36, Tryz.ntmps36
  go_upto_region 1 with fail
  rw [← E0.out]
  clear E0
  generalize w.heap.size = X at *
  go_region_held3 (fun w' => w'.cell? ⟨R, 1, none⟩ = some (.bool true) ∧ w'.cell? ⟨R, 2, none⟩ = some (.int .u8 q.a) ∧ w'.cell? ⟨R, 3, none⟩ = some (.int .u8 q.b) ∧ w'.cell? ⟨R, 4, none⟩ = some (.int .u8 q.c) ∧ w'.cell? ⟨R, 5, none⟩ = some (.int .u8 q.d) ∧ w'.cell? ⟨X, 0, none⟩ = some (.int .u8 v.a) ∧ w'.cell? ⟨X, 1, none⟩ = some (.int .u8 v.b) ∧ w'.cell? ⟨X, 2, none⟩ = some (.int .u8 v.c) ∧ w'.cell? ⟨X, 3, none⟩ = some (.int .u8 v.d)) (go_keep)
    (first | (go_at_call 62; refine (HC.out _).mono ?_; rintro e w1 ⟨rfl, hb⟩; have hb1 : Below W0.heap.size W0 w1 := (below_drewN (Below.refl _ _) 1).trans hb; have hR2 := keepAt HR.out hb1; have hA2 := keepAt HA.out hb1; have d1 : w1.cell? ⟨R, 1, none⟩ = some (.bool true) := hR2.cell 1; have d2 : w1.cell? ⟨R, 2, none⟩ = some (.int .u8 q.a) := hR2.cell 2; have d3 : w1.cell? ⟨R, 3, none⟩ = some (.int .u8 q.b) := hR2.cell 3; have d4 : w1.cell? ⟨R, 4, none⟩ = some (.int .u8 q.c) := hR2.cell 4; have d5 : w1.cell? ⟨R, 5, none⟩ = some (.int .u8 q.d) := hR2.cell 5; have e0 : w1.cell? ⟨X, 0, none⟩ = some (.int .u8 v.a) := hA2.cell 0; have e1 : w1.cell? ⟨X, 1, none⟩ = some (.int .u8 v.b) := hA2.cell 1; have e2 : w1.cell? ⟨X, 2, none⟩ = some (.int .u8 v.c) := hA2.cell 2; have e3 : w1.cell? ⟨X, 3, none⟩ = some (.int .u8 v.d) := hA2.cell 3; have HR1 := WirS.hide hR2; have HA1 := WirS.hide hA2; have HF1 := WirS.hide (HF.out.trans' (Fr.of_below (X := fun _ => False) hb1) (fun _ _ h => h.elim)); clear hb hb1 hR2 hA2))
  go_wp2_with fail
  go_ret
  exact nextP_of HE.out (by decide) HR1.out HF1.out
set_option maxRecDepth 10000 in
set_option maxHeartbeats 2000000 in
theorem next_range2 (w : World) (R : Nat) (least : Int) (q v : Vd) (hq : q.ok) (hv : v.ok) (h : At w R 70 (rcl least (some q))) (hl : ¬ v.rk ≤ q.rk) (hp : v.p < least ∨ 4611686018427387904 < v.p) :
    Calls Tryz.prog 36 #[.pointer (some ⟨R, 0, none⟩), Vd.val v] w (NextP w R least (some q) v) := by
  have hE : nextE least (some q) v = 3 := by unfold nextE late; simp [hl, hp]
  have HE := WirS.hide hE
  have HC := WirS.hide (fun U => show Calls Tryz.prog 62 #[.agg #[.int .u8 v.a, .int .u8 v.b, .int .u8 v.c, .int .u8 v.d], .agg #[.int .u8 q.a, .int .u8 q.b, .int .u8 q.c, .int .u8 q.d]] U (fun e w' => e = .returned (.int .i64 (cmpR v.rk q.rk)) ∧ Below U.heap.size U w') from compare_any U v q hv hq)
  have hK : ¬ cmpR v.rk q.rk ≤ 0 := fun h => hl ((cmpR_le _ _).1 h)
  clear hl
  generalize cmpR v.rk q.rk = K at *
  obtain ⟨W0, e0⟩ : ∃ X, X = w.alloc (.cells #[.int .u8 v.a, .int .u8 v.b, .int .u8 v.c, .int .u8 v.d, .int .i64 v.p] 55) := ⟨_, rfl⟩
  have hR0 : At W0 R 70 (rcl least (some q)) := by rw [e0]; exact h.alloc _
  have hA : At W0 w.heap.size 55 v.cells := by rw [e0]; exact At.new w _ _
  have c1 : W0.cell? ⟨R, 1, none⟩ = some (.bool true) := hR0.cell 1
  have c2 : W0.cell? ⟨R, 2, none⟩ = some (.int .u8 q.a) := hR0.cell 2
  have c3 : W0.cell? ⟨R, 3, none⟩ = some (.int .u8 q.b) := hR0.cell 3
  have c4 : W0.cell? ⟨R, 4, none⟩ = some (.int .u8 q.c) := hR0.cell 4
  have c5 : W0.cell? ⟨R, 5, none⟩ = some (.int .u8 q.d) := hR0.cell 5
  have a0 : W0.cell? ⟨w.heap.size, 0, none⟩ = some (.int .u8 v.a) := hA.cell 0
  have a1 : W0.cell? ⟨w.heap.size, 1, none⟩ = some (.int .u8 v.b) := hA.cell 1
  have a2 : W0.cell? ⟨w.heap.size, 2, none⟩ = some (.int .u8 v.c) := hA.cell 2
  have a3 : W0.cell? ⟨w.heap.size, 3, none⟩ = some (.int .u8 v.d) := hA.cell 3
  have HF := WirS.hide (show Fr (fun k => k = R) w W0 by rw [e0]; exact (Fr.refl _ w).alloc _)
  have HR := WirS.hide hR0
  have HA := WirS.hide hA
  have E0 := WirS.hide e0
  have hne := h.lt
  clear h e0 hE hA hR0
  unfold Vd.val
  go_enter Tryz.func36, Tryz.ntmps36
  go_upto_region 1 with fail
  rw [← E0.out]
  clear E0
  generalize w.heap.size = X at *
  go_region_held3 (fun w' => w'.cell? ⟨R, 1, none⟩ = some (.bool true) ∧ w'.cell? ⟨R, 2, none⟩ = some (.int .u8 q.a) ∧ w'.cell? ⟨R, 3, none⟩ = some (.int .u8 q.b) ∧ w'.cell? ⟨R, 4, none⟩ = some (.int .u8 q.c) ∧ w'.cell? ⟨R, 5, none⟩ = some (.int .u8 q.d) ∧ w'.cell? ⟨X, 0, none⟩ = some (.int .u8 v.a) ∧ w'.cell? ⟨X, 1, none⟩ = some (.int .u8 v.b) ∧ w'.cell? ⟨X, 2, none⟩ = some (.int .u8 v.c) ∧ w'.cell? ⟨X, 3, none⟩ = some (.int .u8 v.d)) (go_keep)
    (first | (go_at_call 62; refine (HC.out _).mono ?_; rintro e w1 ⟨rfl, hb⟩; have hb1 : Below W0.heap.size W0 w1 := (below_drewN (Below.refl _ _) 1).trans hb; have hR2 := keepAt HR.out hb1; have hA2 := keepAt HA.out hb1; have d1 : w1.cell? ⟨R, 1, none⟩ = some (.bool true) := hR2.cell 1; have d2 : w1.cell? ⟨R, 2, none⟩ = some (.int .u8 q.a) := hR2.cell 2; have d3 : w1.cell? ⟨R, 3, none⟩ = some (.int .u8 q.b) := hR2.cell 3; have d4 : w1.cell? ⟨R, 4, none⟩ = some (.int .u8 q.c) := hR2.cell 4; have d5 : w1.cell? ⟨R, 5, none⟩ = some (.int .u8 q.d) := hR2.cell 5; have e0 : w1.cell? ⟨X, 0, none⟩ = some (.int .u8 v.a) := hA2.cell 0; have e1 : w1.cell? ⟨X, 1, none⟩ = some (.int .u8 v.b) := hA2.cell 1; have e2 : w1.cell? ⟨X, 2, none⟩ = some (.int .u8 v.c) := hA2.cell 2; have e3 : w1.cell? ⟨X, 3, none⟩ = some (.int .u8 v.d) := hA2.cell 3; have HR1 := WirS.hide hR2; have HA1 := WirS.hide hA2; have HF1 := WirS.hide (HF.out.trans' (Fr.of_below (X := fun _ => False) hb1) (fun _ _ h => h.elim)); clear hb hb1 hR2 hA2))
  clear c1 c2 c3 c4 c5 a0 a1 a2 a3 d2 d3 d4 d5 e0 e1 e2 e3 HR HA HF HC hq hv
  go_upto_region 3 with fail
  have r0 : w1.cell? ⟨R, 0, none⟩ = some (.int .i64 least) := HR1.out.cell 0
  have r4 : w1.cell? ⟨X, 4, none⟩ = some (.int .i64 v.p) := HA1.out.cell 4
  by_cases hlt : v.p < least
  · have hd : decide (v.p < least) = true := by simpa using hlt
    go_quiet (fail)
    go_wp2_with fail
    go_ret
    exact nextP_of HE.out (by decide) HR1.out (by first | exact WirB.Fr.drewN (WirB.Fr.drewN HF1.out _) _ | exact WirB.Fr.drewN HF1.out _)
  · have hd : decide (v.p < least) = false := by simpa using hlt
    have hd2 : decide (4611686018427387904 < v.p) = true := by simp; omega
    go_quiet (fail)
    go_wp2_with fail
    go_ret
    exact nextP_of HE.out (by decide) HR1.out (by first | exact WirB.Fr.drewN (WirB.Fr.drewN HF1.out _) _ | exact WirB.Fr.drewN HF1.out _)
set_option maxRecDepth 10000 in
set_option maxHeartbeats 2000000 in
theorem next_goes (w : World) (R : Nat) (least : Int) (q v : Vd) (hq : q.ok) (hv : v.ok) (h : At w R 70 (rcl least (some q))) (hl : ¬ v.rk ≤ q.rk) (hp : ¬ (v.p < least ∨ 4611686018427387904 < v.p)) :
    Calls Tryz.prog 36 #[.pointer (some ⟨R, 0, none⟩), Vd.val v] w (NextP w R least (some q) v) := by
  have hE : nextE least (some q) v = 0 := by unfold nextE late; simp [hl]; omega
  have HE := WirS.hide hE
  have HC := WirS.hide (fun U => show Calls Tryz.prog 62 #[.agg #[.int .u8 v.a, .int .u8 v.b, .int .u8 v.c, .int .u8 v.d], .agg #[.int .u8 q.a, .int .u8 q.b, .int .u8 q.c, .int .u8 q.d]] U (fun e w' => e = .returned (.int .i64 (cmpR v.rk q.rk)) ∧ Below U.heap.size U w') from compare_any U v q hv hq)
  have hK : ¬ cmpR v.rk q.rk ≤ 0 := fun h => hl ((cmpR_le _ _).1 h)
  clear hl
  generalize cmpR v.rk q.rk = K at *
  obtain ⟨W0, e0⟩ : ∃ X, X = w.alloc (.cells #[.int .u8 v.a, .int .u8 v.b, .int .u8 v.c, .int .u8 v.d, .int .i64 v.p] 55) := ⟨_, rfl⟩
  have hR0 : At W0 R 70 (rcl least (some q)) := by rw [e0]; exact h.alloc _
  have hA : At W0 w.heap.size 55 v.cells := by rw [e0]; exact At.new w _ _
  have c1 : W0.cell? ⟨R, 1, none⟩ = some (.bool true) := hR0.cell 1
  have c2 : W0.cell? ⟨R, 2, none⟩ = some (.int .u8 q.a) := hR0.cell 2
  have c3 : W0.cell? ⟨R, 3, none⟩ = some (.int .u8 q.b) := hR0.cell 3
  have c4 : W0.cell? ⟨R, 4, none⟩ = some (.int .u8 q.c) := hR0.cell 4
  have c5 : W0.cell? ⟨R, 5, none⟩ = some (.int .u8 q.d) := hR0.cell 5
  have a0 : W0.cell? ⟨w.heap.size, 0, none⟩ = some (.int .u8 v.a) := hA.cell 0
  have a1 : W0.cell? ⟨w.heap.size, 1, none⟩ = some (.int .u8 v.b) := hA.cell 1
  have a2 : W0.cell? ⟨w.heap.size, 2, none⟩ = some (.int .u8 v.c) := hA.cell 2
  have a3 : W0.cell? ⟨w.heap.size, 3, none⟩ = some (.int .u8 v.d) := hA.cell 3
  have HF := WirS.hide (show Fr (fun k => k = R) w W0 by rw [e0]; exact (Fr.refl _ w).alloc _)
  have HR := WirS.hide hR0
  have HA := WirS.hide hA
  have E0 := WirS.hide e0
  have hne := h.lt
  clear h e0 hE hA hR0
  unfold Vd.val
  go_enter Tryz.func36, Tryz.ntmps36
  go_upto_region 1 with fail
  rw [← E0.out]
  clear E0
  generalize w.heap.size = X at *
  go_region_held3 (fun w' => w'.cell? ⟨R, 1, none⟩ = some (.bool true) ∧ w'.cell? ⟨R, 2, none⟩ = some (.int .u8 q.a) ∧ w'.cell? ⟨R, 3, none⟩ = some (.int .u8 q.b) ∧ w'.cell? ⟨R, 4, none⟩ = some (.int .u8 q.c) ∧ w'.cell? ⟨R, 5, none⟩ = some (.int .u8 q.d) ∧ w'.cell? ⟨X, 0, none⟩ = some (.int .u8 v.a) ∧ w'.cell? ⟨X, 1, none⟩ = some (.int .u8 v.b) ∧ w'.cell? ⟨X, 2, none⟩ = some (.int .u8 v.c) ∧ w'.cell? ⟨X, 3, none⟩ = some (.int .u8 v.d)) (go_keep)
    (first | (go_at_call 62; refine (HC.out _).mono ?_; rintro e w1 ⟨rfl, hb⟩; have hb1 : Below W0.heap.size W0 w1 := (below_drewN (Below.refl _ _) 1).trans hb; have hR2 := keepAt HR.out hb1; have hA2 := keepAt HA.out hb1; have d1 : w1.cell? ⟨R, 1, none⟩ = some (.bool true) := hR2.cell 1; have d2 : w1.cell? ⟨R, 2, none⟩ = some (.int .u8 q.a) := hR2.cell 2; have d3 : w1.cell? ⟨R, 3, none⟩ = some (.int .u8 q.b) := hR2.cell 3; have d4 : w1.cell? ⟨R, 4, none⟩ = some (.int .u8 q.c) := hR2.cell 4; have d5 : w1.cell? ⟨R, 5, none⟩ = some (.int .u8 q.d) := hR2.cell 5; have e0 : w1.cell? ⟨X, 0, none⟩ = some (.int .u8 v.a) := hA2.cell 0; have e1 : w1.cell? ⟨X, 1, none⟩ = some (.int .u8 v.b) := hA2.cell 1; have e2 : w1.cell? ⟨X, 2, none⟩ = some (.int .u8 v.c) := hA2.cell 2; have e3 : w1.cell? ⟨X, 3, none⟩ = some (.int .u8 v.d) := hA2.cell 3; have HR1 := WirS.hide hR2; have HA1 := WirS.hide hA2; have HF1 := WirS.hide (HF.out.trans' (Fr.of_below (X := fun _ => False) hb1) (fun _ _ h => h.elim)); clear hb hb1 hR2 hA2))
  clear c1 c2 c3 c4 c5 a0 a1 a2 a3 d2 d3 d4 d5 e0 e1 e2 e3 HR HA HF HC hq hv
  go_upto_region 3 with fail
  have r0 : w1.cell? ⟨R, 0, none⟩ = some (.int .i64 least) := HR1.out.cell 0
  have r4 : w1.cell? ⟨X, 4, none⟩ = some (.int .i64 v.p) := HA1.out.cell 4
  have hd : decide (v.p < least) = false := by simp; omega
  have hd2 : decide (4611686018427387904 < v.p) = false := by simp; omega
  clear hp
  go_quiet (fail)
  go_upto_region 5 with fail
  generalize hW : World.drewN w1 _ = W1
  have hR1 : At W1 R 70 (rcl least (some q)) := by rw [← hW]; exact HR1.out
  have hA1 : At W1 X 55 v.cells := by rw [← hW]; exact HA1.out
  have HF1 := WirS.hide (show Fr (fun k => k = R) w W1 by rw [← hW]; exact WirB.Fr.drewN HF1.out _)
  clear r0 r4 d1 HR1 HA1 hW hd hd2
  have c1 : W1.cell? ⟨R, 1, none⟩ = some (.bool true) := hR1.cell 1
  have c2 : W1.cell? ⟨R, 2, none⟩ = some (.int .u8 q.a) := hR1.cell 2
  have c3 : W1.cell? ⟨R, 3, none⟩ = some (.int .u8 q.b) := hR1.cell 3
  have c4 : W1.cell? ⟨R, 4, none⟩ = some (.int .u8 q.c) := hR1.cell 4
  have c5 : W1.cell? ⟨R, 5, none⟩ = some (.int .u8 q.d) := hR1.cell 5
  have f1 := hR1.frozen 1
  have f2 := hR1.frozen 2
  have f3 := hR1.frozen 3
  have f4 := hR1.frozen 4
  have f5 := hR1.frozen 5
  have a0 : W1.cell? ⟨X, 0, none⟩ = some (.int .u8 v.a) := hA1.cell 0
  have a1 : W1.cell? ⟨X, 1, none⟩ = some (.int .u8 v.b) := hA1.cell 1
  have a2 : W1.cell? ⟨X, 2, none⟩ = some (.int .u8 v.c) := hA1.cell 2
  have a3 : W1.cell? ⟨X, 3, none⟩ = some (.int .u8 v.d) := hA1.cell 3
  have HR1 := WirS.hide hR1
  clear hR1 hA1
  go_region
  go_wp2_with fail
  go_ret
  exact nextP_ok HE.out (((((HR1.out.setCell 1 _).setCell 2 _).setCell 3 _).setCell 4 _).setCell 5 _) ((((((HF1.out.setCell R 1 _ (fun _ => rfl)).setCell R 2 _ (fun _ => rfl)).setCell R 3 _ (fun _ => rfl)).setCell R 4 _ (fun _ => rfl)).setCell R 5 _ (fun _ => rfl)).drew)
theorem next_any (w : World) (R : Nat) (least : Int) (q : Option Vd) (v : Vd) (hq : ∀ x, q = some x → x.ok) (hv : v.ok) (h : At w R 70 (rcl least q)) :
    Calls Tryz.prog 36 #[.pointer (some ⟨R, 0, none⟩), Vd.val v] w (NextP w R least q v) := by
  by_cases hp : v.p < least ∨ 4611686018427387904 < v.p
  · cases q with
    | none => exact next_range w R least v h hp
    | some q =>
      by_cases hl : v.rk ≤ q.rk
      · exact next_late w R least q v (hq q rfl) hv h hl
      · exact next_range2 w R least q v (hq q rfl) hv h hl hp
  · cases q with
    | none => exact next_first w R least v h hp
    | some q =>
      by_cases hl : v.rk ≤ q.rk
      · exact next_late w R least q v (hq q rfl) hv h hl
      · exact next_goes w R least q v (hq q rfl) hv h hl hp
end ValC
end Go.Proofs.YtpambhlhkmkagaaGreatDoor

namespace Go.Proofs.YtpambhlhkmkagaaGreatDoor
namespace ValD
open Go.RowKit
open BlkM WirM WirS WirA WirB ValA ValB ValC

/-- What is wrong first, validator by validator. -/
def rowE (least : Int) : Option Vd → List Vd → Int
  | _, [] => 0
  | q, x :: l => if nextE least q x = 0 then rowE least (some x) l else nextE least q x
def chk (vs : List Vd) : Int := if vs.length = 0 then 6 else if 64 < vs.length then 4 else rowE 1 none vs
theorem drop_get {α : Type} {l : List α} {k : Nat} {x : α} (h : l[k]? = some x) : l.drop k = x :: l.drop (k + 1) := by
  obtain ⟨hk, rfl⟩ := List.getElem?_eq_some_iff.1 h
  exact List.drop_eq_getElem_cons hk
theorem next_ok (w : World) (R : Nat) (least : Int) (q : Option Vd) (v : Vd) (hq : ∀ x, q = some x → x.ok) (hv : v.ok) (h : At w R 70 (rcl least q)) (hn : nextE least q v = 0) :
    Calls Tryz.prog 36 #[.pointer (some ⟨R, 0, none⟩), .agg #[.int .u8 v.a, .int .u8 v.b, .int .u8 v.c, .int .u8 v.d, .int .i64 v.p]] w fun e w' => e = .returned (.int .i64 0) ∧ At w' R 70 (rcl least (some v)) ∧ Fr (fun k => k = R) w w' :=
  (next_any w R least q v hq hv h).mono fun _ _ ⟨h1, h2, h3⟩ => ⟨by rw [h1, hn], by rw [hn, if_pos rfl] at h2; exact h2, h3⟩
theorem next_no (w : World) (R : Nat) (least : Int) (q : Option Vd) (v : Vd) (hq : ∀ x, q = some x → x.ok) (hv : v.ok) (h : At w R 70 (rcl least q)) (c : Int) (hn : nextE least q v = c) :
    Calls Tryz.prog 36 #[.pointer (some ⟨R, 0, none⟩), .agg #[.int .u8 v.a, .int .u8 v.b, .int .u8 v.c, .int .u8 v.d, .int .i64 v.p]] w fun e w' => e = .returned (.int .i64 c) ∧ Fr (fun k => k = R) w w' :=
  (next_any w R least q v hq hv h).mono fun _ _ ⟨h1, _, h3⟩ => ⟨by rw [h1, hn], h3⟩
def MidK (w : World) (vs : List Vd) (n : Nat) (i : Value) (U : World) : Prop :=
  ∃ (k : Nat) (q : Option Vd), k ≤ n ∧ i = .int .i64 (k : Int) ∧ At U w.heap.size 70 (rcl 1 q) ∧ (∀ x, q = some x → x ∈ vs) ∧ rowE 1 none vs = rowE 1 q (vs.drop k) ∧ Below w.heap.size w U
set_option maxRecDepth 10000 in
set_option maxHeartbeats 2000000 in
theorem check_any (w : World) (a : Option Addr) (n c : Nat) (vs : List Vd) (h : VIn w a n c vs) :
    Calls Tryz.prog 15 #[.slice a n c] w fun e w' => e = .returned (.int .i64 (chk vs)) ∧ Below w.heap.size w w' := by
  have hlen := h.len
  have H := WirS.hide h
  have HL := WirS.hide hlen
  by_cases h0 : n = 0
  · subst h0
    have hE : chk vs = 6 := by unfold chk; simp [hlen]
    rw [hE]
    clear h hlen hE
    go_enter Tryz.func15, Tryz.ntmps15
    go_wp2_with fail
    go_ret
    exact ⟨rfl, Below.refl _ _⟩
  by_cases h64 : 64 < n
  · have hE : chk vs = 4 := by unfold chk; rw [hlen, if_neg h0, if_pos h64]
    rw [hE]
    have e1 : ((n : Int) == 0) = false := by simp; omega
    have e2 : (64 : Int) < (n : Int) := by omega
    clear h hlen hE
    go_enter Tryz.func15, Tryz.ntmps15
    go_wp2_with fail
    go_ret
    exact ⟨rfl, Below.refl _ _⟩
  have hE : chk vs = rowE 1 none vs := by unfold chk; rw [hlen, if_neg h0, if_neg h64]
  rw [hE]
  have e1 : ((n : Int) == 0) = false := by simp; omega
  have e2 : ¬ (64 : Int) < (n : Int) := by omega
  have hst : MidK w vs n (.int .i64 0) (w.alloc (.cells #[.int .i64 1, .bool false, .int .u8 0, .int .u8 0, .int .u8 0, .int .u8 0] 70)) :=
    ⟨0, none, by omega, rfl, At.new w _ (rcl 1 none), (fun x hx => absurd hx (by simp)), rfl, Below.alloc (Below.refl _ _) (Nat.le_refl _) _⟩
  have HST := WirS.hide hst
  clear h hlen hE hst
  go_enter Tryz.func15, Tryz.ntmps15
  go_wp2_with fail
  go_loopw [16] (fun i wr => MidK w vs n i wr) (fun i _ => n - (intOf i).toNat)
  case atStart => exact HST.out
  case round =>
    clear HST
    obtain ⟨k, q, hk, rfl, hR, hq, hE, hB⟩ := hrel
    by_cases hlt : k < n
    · obtain ⟨x, B, o, hx, hmem, rfl, hBl, hr⟩ := (H.out.below hB).cell hlt
      have r0 : wr.cell? ⟨B, o + k * 5, none⟩ = some (.int .u8 x.a) := hr 0 _ rfl
      have r1 : wr.cell? ⟨B, o + k * 5 + 1, none⟩ = some (.int .u8 x.b) := hr 1 _ rfl
      have r2 : wr.cell? ⟨B, o + k * 5 + 2, none⟩ = some (.int .u8 x.c) := hr 2 _ rfl
      have r3 : wr.cell? ⟨B, o + k * 5 + 3, none⟩ = some (.int .u8 x.d) := hr 3 _ rfl
      have r4 : wr.cell? ⟨B, o + k * 5 + 4, none⟩ = some (.int .i64 x.p) := hr 4 _ rfl
      have hkl : (k : Int) < (n : Int) := by omega
      have HX := WirS.hide hx
      have HE := WirS.hide hE
      have HB := WirS.hide hB
      have HB2 := WirS.hide (show Below w.heap.size w (wr.alloc (.cells #[.int .u8 x.a, .int .u8 x.b, .int .u8 x.c, .int .u8 x.d, .int .i64 x.p] 55)) from hB.alloc hB.size _)
      have hR2 : At (wr.alloc (.cells #[.int .u8 x.a, .int .u8 x.b, .int .u8 x.c, .int .u8 x.d, .int .i64 x.p] 55)) w.heap.size 70 (rcl 1 q) := hR.alloc _
      have hqo : ∀ y, q = some y → y.ok := fun y hy => H.out.ok y (hq y hy)
      have hxo := H.out.ok x hmem
      have HM := WirS.hide hmem
      by_cases hne : nextE 1 q x = 0
      · have HN := WirS.hide (next_ok _ _ 1 q x hqo hxo hR2 hne)
        rw [drop_get HX.out, rowE, if_pos hne] at HE
        clear hr hx hE hB hq hmem hqo hxo hR2 hne hR HX
        go_wp2_with (first | (go_at_call 36; refine (HN.out).mono ?_; rintro e u ⟨rfl, hA, hF⟩; have HA := WirS.hide hA; have HU := WirS.hide (hF.below HB2.out.size (fun k hk hx => by omega)); clear hA hF))
        go_roundw
        case rel => exact ⟨k + 1, some x, by omega, by go_num, HA.out, fun y hy => by cases hy; exact HM.out, HE.out, HB2.out.trans HU.out⟩
        case measure => simp [intOf]; omega
      · obtain ⟨cd, hcd⟩ : ∃ cd, nextE 1 q x = cd := ⟨_, rfl⟩
        have HN := WirS.hide (next_no _ _ 1 q x hqo hxo hR2 cd hcd)
        rw [drop_get HX.out, rowE, if_neg hne, hcd] at HE
        rw [hcd] at hne
        have hn0 : (cd == 0) = false := by simpa using hne
        have hn1 : (cd != 0) = true := by simpa using hne
        clear hr hx hE hB hq hmem hqo hxo hR2 hne hR HX hcd
        go_wp2_with (first | (go_at_call 36; refine (HN.out).mono ?_; rintro e u ⟨rfl, hF⟩; have HU := WirS.hide (hF.below HB2.out.size (fun k hk hx => by omega)); clear hF))
        go_ret
        exact ⟨(by rw [HE.out]; rfl), HB2.out.trans HU.out⟩
    · have hd : vs.drop k = [] := List.drop_eq_nil_of_le (by rw [HL.out]; omega)
      rw [hd, rowE] at hE
      have HE := WirS.hide hE
      have HB := WirS.hide hB
      clear hE hB hR hq hd
      go_wp2_with fail
      go_ret
      exact ⟨(by rw [HE.out]; rfl), HB.out⟩
end ValD
end Go.Proofs.YtpambhlhkmkagaaGreatDoor

namespace Go.Proofs.YtpambhlhkmkagaaGreatDoor
namespace ValE
open Go.RowKit
open BlkM WirM WirS WirA WirB ValA ValB ValC ValD
open WirBE (eqItems4 ext4)

theorem eqKd (l m : List Int) (hl : l.length = 4) (hm : m.length = 4) (d : Nat) (W : World) : (Op.equalIn (d + 1 + 1) 24 (.agg (b8 l).toArray) (.agg (b8 m).toArray)).run Tryz.prog W = .ok (decide (l = m)) W := by
  have hi : (Tryz.prog.info? 5).isSome = true := by kernel_rfl
  obtain ⟨i, hi⟩ := Option.isSome_iff_exists.1 hi
  have hc : Tryz.prog.cellsOf 5 = 1 := by kernel_rfl
  rw [run_equalIn_array W (d + 1) (b8 l).toArray (b8 m).toArray Tryz.underlying24 hi, hc, eqItems4 l m hl hm d W (List.range 4) (fun i hi => List.mem_range.1 hi)]
  simp only [ext4 hl hm]
def Vd.same (x y : Vd) : Bool := decide (x.key = y.key) && x.p == y.p
theorem Vd.same_iff (x y : Vd) : Vd.same x y = true ↔ x = y := by
  cases x
  cases y
  simp [Vd.same, Vd.key]
  omega
theorem part_key (x : Vd) (W : World) : (part 24 #[.int .u8 x.a, .int .u8 x.b, .int .u8 x.c, .int .u8 x.d, .int .i64 x.p] 0).run Tryz.prog W = .ok (.agg (b8 x.key).toArray) W := by kernel_rfl
theorem part_pow (x : Vd) (W : World) : (part 3 #[.int .u8 x.a, .int .u8 x.b, .int .u8 x.c, .int .u8 x.d, .int .i64 x.p] 4).run Tryz.prog W = .ok (.int .i64 x.p) W := by kernel_rfl
theorem eq_vals (x y : Vd) (W : World) : (binOp .eql 55 (.agg #[.int .u8 x.a, .int .u8 x.b, .int .u8 x.c, .int .u8 x.d, .int .i64 x.p]) (.agg #[.int .u8 y.a, .int .u8 y.b, .int .u8 y.c, .int .u8 y.d, .int .i64 y.p])).run Tryz.prog W = .ok (.bool (Vd.same x y)) W := by
  have hf : (Tryz.prog.fieldsOf 55).toList.map (fun f => (f.name, f.type, f.offset)) = [("Key", 24, 0), ("Power", 3, 4)] := by kernel_rfl
  have h : (Op.equalIn (9997 + 1 + 1 + 1) 55 (.agg #[.int .u8 x.a, .int .u8 x.b, .int .u8 x.c, .int .u8 x.d, .int .i64 x.p]) (.agg #[.int .u8 y.a, .int .u8 y.b, .int .u8 y.c, .int .u8 y.d, .int .i64 y.p])).run Tryz.prog W = .ok (Vd.same x y) W := by
    rw [run_equalIn_struct W (9997 + 1 + 1) 55 _ _ (by kernel_rfl) (by kernel_rfl)]
    generalize (Tryz.prog.fieldsOf 55).toList = L at hf ⊢
    obtain _ | ⟨f1, _ | ⟨f2, _ | ⟨f3, L⟩⟩⟩ := L
    · simp at hf
    · simp at hf
    · simp only [List.map_cons, List.map_nil, List.cons.injEq, Prod.mk.injEq, and_true] at hf
      obtain ⟨⟨n1, t1, o1⟩, n2, t2, o2⟩ := hf
      have e2 : (Op.equalIn (9997 + 1 + 1) 3 (.int .i64 x.p) (.int .i64 y.p)).run Tryz.prog W = .ok (x.p == y.p) W := run_equalIn_int W (9997 + 1) 3 .i64 .i64 x.p y.p Tryz.underlying3
      simp only [Op.eqFields, n1, t1, o1, n2, t2, o2, show (("Key" : String) ≠ "_") = True by simp, show (("Power" : String) ≠ "_") = True by simp, if_true, Sem.run_bind, part_key, part_pow, eqKd _ _ (show x.key.length = 4 from rfl) (show y.key.length = 4 from rfl), e2, Result.andThen_ok, Sem.run_ite, Sem.run_pure]
      unfold Vd.same
      by_cases hk : x.key = y.key <;> by_cases hp : x.p = y.p <;> simp [hk, hp]
    · simp at hf
  simp only [binOp]
  simp [Op.equal, Op.maxDepth, h]
theorem eq_val (x : Vd) (W : World) : (binOp .eql 55 (.agg #[.int .u8 x.a, .int .u8 x.b, .int .u8 x.c, .int .u8 x.d, .int .i64 x.p]) (.agg #[.int .u8 x.a, .int .u8 x.b, .int .u8 x.c, .int .u8 x.d, .int .i64 x.p])).run Tryz.prog W = .ok (.bool true) W := by
  rw [eq_vals, (Vd.same_iff x x).2 rfl]
def MidS (w : World) (n : Nat) (s i : Value) (U : World) : Prop := ∃ k : Nat, k ≤ n ∧ s = .bool true ∧ i = .int .i64 (k : Int) ∧ Below w.heap.size w U
set_option maxRecDepth 10000 in
set_option maxHeartbeats 2000000 in
theorem same_any (w : World) (a b : Option Addr) (n c d : Nat) (vs : List Vd) (h : VIn w a n c vs) (h' : VIn w b n d vs) :
    Calls Tryz.prog 18 #[.slice a n c, .slice b n d] w fun e w' => e = .returned (.bool true) ∧ Below w.heap.size w w' := by
  have hns : n ≤ 9223372036854775807 := Nat.le_trans h.cap h.small
  have H := WirS.hide h
  have H' := WirS.hide h'
  clear h h'
  go_enter Tryz.func18, Tryz.ntmps18
  go_wp2_with fail
  go_loopw [5, 6] (fun s i wr => MidS w n s i wr) (fun _ i _ => n - (intOf i).toNat)
  case atStart => exact ⟨0, Nat.zero_le _, by simp, rfl, Below.refl _ _⟩
  case round =>
    obtain ⟨k, hk, rfl, rfl, hB⟩ := hrel
    by_cases hlt : k < n
    · obtain ⟨x, B, o, hx, hmem, rfl, hBl, hr⟩ := (H.out.below hB).cell hlt
      obtain ⟨y, B', o', hy, hmem', rfl, hBl', hr'⟩ := (H'.out.below hB).cell hlt
      obtain rfl : x = y := by rw [hx] at hy; exact Option.some.inj hy
      have r0 : wr.cell? ⟨B, o + k * 5, none⟩ = some (.int .u8 x.a) := hr 0 _ rfl
      have r1 : wr.cell? ⟨B, o + k * 5 + 1, none⟩ = some (.int .u8 x.b) := hr 1 _ rfl
      have r2 : wr.cell? ⟨B, o + k * 5 + 2, none⟩ = some (.int .u8 x.c) := hr 2 _ rfl
      have r3 : wr.cell? ⟨B, o + k * 5 + 3, none⟩ = some (.int .u8 x.d) := hr 3 _ rfl
      have r4 : wr.cell? ⟨B, o + k * 5 + 4, none⟩ = some (.int .i64 x.p) := hr 4 _ rfl
      have s0 : wr.cell? ⟨B', o' + k * 5, none⟩ = some (.int .u8 x.a) := hr' 0 _ rfl
      have s1 : wr.cell? ⟨B', o' + k * 5 + 1, none⟩ = some (.int .u8 x.b) := hr' 1 _ rfl
      have s2 : wr.cell? ⟨B', o' + k * 5 + 2, none⟩ = some (.int .u8 x.c) := hr' 2 _ rfl
      have s3 : wr.cell? ⟨B', o' + k * 5 + 3, none⟩ = some (.int .u8 x.d) := hr' 3 _ rfl
      have s4 : wr.cell? ⟨B', o' + k * 5 + 4, none⟩ = some (.int .i64 x.p) := hr' 4 _ rfl
      have hkl : (k : Int) < (n : Int) := by omega
      have HB := WirS.hide hB
      have hq := eq_val x
      clear hr hx hB hmem hr' hmem' hy
      go_upto_region 5 with fail
      go_quiet (fail)
      go_wp2_with fail
      go_roundw
      case rel => exact ⟨k + 1, by omega, rfl, by go_num, by first | exact below_drewN (below_drewN HB.out _) _ | exact below_drewN HB.out _⟩
      case measure => simp [intOf]; omega
    · have HB := WirS.hide hB
      clear hB
      go_wp2_with fail
      go_ret
      exact ⟨rfl, HB.out⟩
end ValE
end Go.Proofs.YtpambhlhkmkagaaGreatDoor

namespace Go.Proofs.YtpambhlhkmkagaaGreatDoor
namespace ValF
open Go.RowKit
open BlkM WirM WirS WirA WirB ValA ValB ValC ValD ValE

def NewB (w : World) (x : Value) : Prop := ∀ k, x.ownBlock = some k → w.heap.size ≤ k
set_option maxRecDepth 10000 in
theorem key_any (w : World) (n : Int) : Calls Tryz.prog 38 #[.int .u8 n] w fun e w' => e = .returned (.agg #[.int .u8 0, .int .u8 0, .int .u8 0, .int .u8 n]) ∧ Below w.heap.size w w' := by
  go_enter Tryz.func38, Tryz.ntmps38
  go_wp2_with fail
  exact bodyPost_ret (v := .agg #[.int .u8 0, .int .u8 0, .int .u8 0, .int .u8 n]) (by simp [results, Tryz.results38, go_sem]) rfl ⟨rfl, by repeat' (first | exact Below.refl _ _ | refine Below.setCell ?_ (by simp) _ | refine Below.alloc ?_ (by simp) _)⟩
/-- Pairs of numbers, as they lie. -/
structure PIn (w : World) (B n : Nat) (ps : List (Int × Int)) : Prop where
  len : n = 2 * ps.length
  lt : B < w.heap.size
  cell : ∀ (j : Nat) (x : Int × Int), ps[j]? = some x → w.cell? ⟨B, 2 * j, none⟩ = some (.int .i64 x.1) ∧ w.cell? ⟨B, 2 * j + 1, none⟩ = some (.int .i64 x.2)
  ok : ∀ x ∈ ps, 0 ≤ x.1 ∧ x.1 < 256 ∧ -9223372036854775808 ≤ x.2 ∧ x.2 < 9223372036854775808
theorem PIn.below {w w' : World} {B n : Nat} {ps : List (Int × Int)} (h : PIn w B n ps) (hb : Below w.heap.size w w') : PIn w' B n ps :=
  ⟨h.len, Nat.lt_of_lt_of_le h.lt hb.size, fun j x hx => ⟨(hb.cell (p := ⟨B, _, none⟩) h.lt).trans (h.cell j x hx).1, (hb.cell (p := ⟨B, _, none⟩) h.lt).trans (h.cell j x hx).2⟩, h.ok⟩
def vof (ps : List (Int × Int)) : List Vd := ps.map fun x => ⟨0, 0, 0, x.1, x.2⟩
def MidO (w : World) (ps : List (Int × Int)) (v i : Value) (U : World) : Prop :=
  ∃ k : Nat, k ≤ ps.length ∧ i = .int .i64 ((2 * k : Nat) : Int) ∧ OwnV U v (vof (ps.take k)) ∧ NewB w v ∧ Below w.heap.size w U
set_option maxRecDepth 10000 in
set_option maxHeartbeats 2000000 in
theorem of_any (w : World) (B n c : Nat) (ps : List (Int × Int)) (h : PIn w B n ps) (h30 : ps.length ≤ 30) :
    Calls Tryz.prog 19 #[.slice (some ⟨B, 0, none⟩) n c] w fun e w' => ∃ va vn vc, e = .returned (.slice va vn vc) ∧ OwnV w' (.slice va vn vc) (vof ps) ∧ NewB w (.slice va vn vc) ∧ Below w.heap.size w w' := by
  have hlen := h.len
  have hn60 : n ≤ 60 := by omega
  have H := WirS.hide h
  have HN := WirS.hide hlen
  clear h hlen
  go_enter Tryz.func19, Tryz.ntmps19
  go_wp2_with fail
  go_loopw [3, 4] (fun v i wr => MidO w ps v i wr) (fun _ i _ => n - (intOf i).toNat)
  case atStart => exact ⟨0, Nat.zero_le _, rfl, OwnV.nil _, fun k hk => by simp [Value.ownBlock] at hk, Below.refl _ _⟩
  case round =>
    obtain ⟨k, hk, rfl, hO, hNB, hB⟩ := hrel
    by_cases hlt : k < ps.length
    · have hx : ps[k]? = some (ps[k]'hlt) := List.getElem?_eq_getElem hlt
      obtain ⟨p1, hp1⟩ : ∃ p, ps[k]'hlt = p := ⟨_, rfl⟩
      rw [hp1] at hx
      obtain ⟨r0, r1⟩ := (H.out.below hB).cell k p1 hx
      obtain ⟨q0, q1, q2, q3⟩ := H.out.ok p1 (List.mem_of_getElem? hx)
      have hkl : ((2 * k : Nat) : Int) + 1 < (n : Int) := by have := HN.out; omega
      have hk0 : ((2 * k : Nat) : Int) < (n : Int) := by omega
      have hw : IntKind.u8.wrap p1.1 = p1.1 := by simp [IntKind.wrap, IntKind.bits, IntKind.signed]; omega
      obtain ⟨m, hm⟩ : ∃ m, 2 * k = m := ⟨_, rfl⟩
      rw [hm] at hkl hk0 r0 r1
      have HX := WirS.hide hx
      have HO := WirS.hide hO
      have HB := WirS.hide hB
      have HNB := WirS.hide hNB
      have HM := WirS.hide hm
      obtain ⟨x1, e1⟩ : ∃ x, p1.1 = x := ⟨_, rfl⟩
      obtain ⟨x2, e2⟩ : ∃ x, p1.2 = x := ⟨_, rfl⟩
      rw [e1] at r0 hw q0 q1
      rw [e2] at r1 q2 q3
      have HE := WirS.hide (show p1 = (x1, x2) by rw [← e1, ← e2])
      have HQ := WirS.hide (show (⟨0, 0, 0, x1, x2⟩ : Vd).ok from ⟨by simp, by simp, by simp, ⟨q0, q1⟩, ⟨q2, q3⟩⟩)
      have HBl := WirS.hide (Nat.lt_of_lt_of_le H.out.lt hB.size)
      have hix : (0 : Int) ≤ (m : Int) + 1 := by omega
      have htn : ((m : Int) + 1).toNat = m + 1 := by omega
      have hwr : IntKind.i64.wrap ((m : Int) + 1) = (m : Int) + 1 := IntWalk.i64_in _ (by omega)
      clear hx hO hB hNB hp1 e1 e2 q0 q1 q2 q3
      rw [hm]
      clear hm
      go_upto_region 5 with fail
      go_region_held3 (fun w' => w'.cell? ⟨B, m, none⟩ = some (.int .i64 x1) ∧ w'.cell? ⟨B, m + 1, none⟩ = some (.int .i64 x2)) (go_keep)
        (first | (go_at_call 38; refine (key_any _ _).mono ?_; rintro e w1 ⟨rfl, hb⟩; have HB1 := WirS.hide (show Below wr.heap.size wr w1 from (below_drewN (Below.refl _ _) 1).trans hb); have d0 := (HB1.out.cell (p := ⟨B, m, none⟩) HBl.out).trans r0; have d1 := (HB1.out.cell (p := ⟨B, m + 1, none⟩) HBl.out).trans r1; have hal : Below w1.heap.size w1 (w1.alloc (.cells #[.int .u8 0, .int .u8 0, .int .u8 0, .int .u8 x1, .int .i64 x2] 55)) := Below.alloc (Below.refl _ _) (Nat.le_refl _) _; obtain ⟨v', u', hrun, ho, hf, hn⟩ := app_vals (w1.alloc (.cells #[.int .u8 0, .int .u8 0, .int .u8 0, .int .u8 x1, .int .i64 x2] 55)) 22 22 _ (.slice (some ⟨w1.heap.size, 0, none⟩) 1 1) _ [⟨0, 0, 0, x1, x2⟩] ((HO.out.below HB1.out).below hal) (src_one Tryz.underlying22 _ 0 1 _ (fun j v hj => by rw [Nat.zero_add]; exact ((At.new w1 _ (Vd.cells ⟨0, 0, 0, x1, x2⟩)).cell j).trans hj)) (fun y hy => by rw [List.mem_singleton.1 hy]; exact HQ.out) (by have := List.length_take_le k ps; simp [vof]; omega); have hBn : ¬ (Value.ownBlock u3 = some B) := (fun h => by have := HNB.out B h; have := H.out.lt; omega); have f0 := (hf.cell (p := ⟨B, m, none⟩) (Nat.lt_of_lt_of_le HBl.out (Nat.le_trans HB1.out.size hal.size)) hBn).trans ((hal.cell (p := ⟨B, m, none⟩) (Nat.lt_of_lt_of_le HBl.out HB1.out.size)).trans d0); have f1 := (hf.cell (p := ⟨B, m + 1, none⟩) (Nat.lt_of_lt_of_le HBl.out (Nat.le_trans HB1.out.size hal.size)) hBn).trans ((hal.cell (p := ⟨B, m + 1, none⟩) (Nat.lt_of_lt_of_le HBl.out HB1.out.size)).trans d1); have HRUN := WirS.hide hrun; have HO1 := WirS.hide ho; have HF1 := WirS.hide hf; have HN1 := WirS.hide hn; have HA1 := WirS.hide hal; clear hb ho hf hn hal hrun hBn) | (refine step_app rfl _ _ _ _ rfl _ _ rfl rfl v' u' HRUN.out ?_))
      go_wp2_with fail
      go_roundw
      case rel =>
        refine ⟨k + 1, by omega, by have := HM.out; go_num, ?_, ?_, ?_⟩
        · have h2 := HO1.out
          rw [List.take_add_one, HX.out, HE.out]
          simpa [vof] using h2
        · intro q hq
          rcases HN1.out q hq with h3 | h3
          · exact HNB.out q h3
          · have := HB.out.size
            have := HB1.out.size
            simp at h3
            omega
        · have hs := HB1.out.size
          exact HB.out.trans ((HB1.out.trans (HA1.out.mono hs)).mono HB.out.size |>.trans (HF1.out.below (by simp; have := HB.out.size; omega) (fun q hq hx => by have := HNB.out q hx; omega)))
      case measure => have := HM.out; simp [intOf]; omega
    · obtain rfl : k = ps.length := by omega
      have hkl : ¬ ((2 * ps.length : Nat) : Int) + 1 < (n : Int) := by have := HN.out; omega
      obtain ⟨m, hm⟩ : ∃ m, 2 * ps.length = m := ⟨_, rfl⟩
      rw [List.take_length] at hO
      obtain ⟨va, vc, rfl⟩ := hO.len_of
      obtain ⟨vn, hvn⟩ : ∃ vn, (vof ps).length = vn := ⟨_, rfl⟩
      rw [hvn] at hO hNB
      rw [hvn]
      have hm60 : m ≤ 60 := by omega
      rw [hm] at hkl
      rw [hm]
      have HO := WirS.hide hO
      have HB := WirS.hide hB
      have HNB := WirS.hide hNB
      clear hO hB hNB hvn hm hlt hk
      go_wp2_with fail
      go_ret
      exact ⟨_, _, _, rfl, HO.out, HNB.out, HB.out⟩
end ValF
end Go.Proofs.YtpambhlhkmkagaaGreatDoor

namespace Go.Proofs.YtpambhlhkmkagaaGreatDoor
namespace ValP
open Go.RowKit
open BlkM WirM WirS ValA ValB ValC ValD

theorem nextE_zero (least : Int) (q : Option Vd) (v : Vd) : nextE least q v = 0 ↔ late q v = false ∧ least ≤ v.p ∧ v.p ≤ 4611686018427387904 := by
  unfold nextE
  by_cases h : late q v = true
  · simp [h]
  · rw [if_neg h]
    have h2 : late q v = false := by simpa using h
    by_cases hp : v.p < least ∨ 4611686018427387904 < v.p
    · rw [if_pos hp]
      simp only [h2, true_and]
      omega
    · rw [if_neg hp]
      simp only [h2, true_and, true_iff]
      omega
/-- Keys ascend. -/
def asc : Option Vd → List Vd → Prop
  | _, [] => True
  | q, x :: l => late q x = false ∧ asc (some x) l
theorem rowE_zero (least : Int) : ∀ (l : List Vd) (q : Option Vd), rowE least q l = 0 ↔ asc q l ∧ ∀ x ∈ l, least ≤ x.p ∧ x.p ≤ 4611686018427387904
  | [], _ => by simp [rowE, asc]
  | x :: l, q => by
    rw [rowE]
    by_cases h : nextE least q x = 0
    · rw [if_pos h, rowE_zero least l (some x)]
      obtain ⟨h1, h2⟩ := (nextE_zero least q x).1 h
      simp only [asc, h1, true_and, List.forall_mem_cons, h2]
    · rw [if_neg h]
      simp only [h, false_iff, asc]
      rintro ⟨⟨h1, _⟩, h2⟩
      exact h ((nextE_zero least q x).2 ⟨h1, h2 x (by simp)⟩)
theorem chk_zero (vs : List Vd) : chk vs = 0 ↔ 0 < vs.length ∧ vs.length ≤ 64 ∧ asc none vs ∧ ∀ x ∈ vs, 1 ≤ x.p ∧ x.p ≤ 4611686018427387904 := by
  unfold chk
  by_cases h0 : vs.length = 0
  · rw [if_pos h0]
    omega
  · rw [if_neg h0]
    by_cases h1 : 64 < vs.length
    · rw [if_pos h1]
      omega
    · rw [if_neg h1, rowE_zero]
      constructor
      · intro h
        exact ⟨by omega, by omega, h⟩
      · intro h
        exact h.2.2
theorem asc_lt : ∀ (l : List Vd) (q : Vd), asc (some q) l → ∀ x ∈ l, q.rk < x.rk
  | [], _, _ => fun x hx => by cases hx
  | y :: l, q, h => fun x hx => by
    obtain ⟨h1, h2⟩ := h
    have h3 : q.rk < y.rk := by simpa [late] using h1
    rcases List.mem_cons.1 hx with rfl | hx
    · exact h3
    · have := asc_lt l y h2 x hx
      omega
/-- Ascending, as a fact on any two. -/
def Up (l : List Vd) : Prop := l.Pairwise fun x y => x.rk < y.rk
theorem asc_up : ∀ (l : List Vd) (q : Option Vd), asc q l ↔ Up l ∧ ∀ p, q = some p → ∀ x ∈ l, p.rk < x.rk
  | [], q => by simp [asc, Up]
  | y :: l, q => by
    constructor
    · intro h
      have h2 := (asc_up l (some y)).1 h.2
      refine ⟨List.pairwise_cons.2 ⟨fun x hx => h2.2 y rfl x hx, h2.1⟩, ?_⟩
      rintro p rfl
      exact asc_lt (y :: l) p h
    · rintro ⟨h1, h2⟩
      obtain ⟨h3, h4⟩ := List.pairwise_cons.1 h1
      refine ⟨?_, (asc_up l (some y)).2 ⟨h4, ?_⟩⟩
      · cases q with
        | none => rfl
        | some p =>
          have := h2 p rfl y (by simp)
          simp [late]
          omega
      · rintro p hp x hx
        cases hp
        exact h3 x hx
theorem chk_up (vs : List Vd) : chk vs = 0 ↔ 0 < vs.length ∧ vs.length ≤ 64 ∧ Up vs ∧ ∀ x ∈ vs, 1 ≤ x.p ∧ x.p ≤ 4611686018427387904 := by
  rw [chk_zero, asc_up]
  constructor
  · rintro ⟨a, b, ⟨c, _⟩, d⟩
    exact ⟨a, b, c, d⟩
  · rintro ⟨a, b, c, d⟩
    exact ⟨a, b, ⟨c, fun p h => by cases h⟩, d⟩
end ValP
end Go.Proofs.YtpambhlhkmkagaaGreatDoor

