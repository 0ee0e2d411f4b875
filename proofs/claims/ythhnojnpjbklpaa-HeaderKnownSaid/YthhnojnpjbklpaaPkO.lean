/-
  ValSO, ValSP, in one text.
-/
import Derived.Test.YthhnojnpjbklpaaPkK
import Derived.Test.YthhnojnpjbklpaaPkL
import Derived.Deep.RegionHeld3
import Derived.Test.YthhnojnpjbklpaaPkN
import Derived.Test.YthhnojnpjbklpaaPkM
namespace Go.Proofs.Ythhnojnpjbklpaa
namespace ValSO
open Go.RowKit
open BlkM WirM WirS ValSA ValSC ValK ValSK ValSM ValSN
open WirX (Thg Bag own)
open WirZ (Td PW PW_at PW_below)
open WirAA (box bag_box)
open WirAB (turn3)
open WirJ (sizedO wordO boolO st)
open WirO (rowO)
open WirP (aggB)
open WirN (zz)
open WirW (paceO)
open WirRT (rng)

/-- Both readers stand alike behind it. -/
def Alike (w0 : World) (l : List Thg) (R X : Nat) (a a2 : Option Addr) (c c2 : Nat) (bs : List Int) (e : Ending) (w' : World) : Prop :=
  e = .returned (.bool true) ∧ ∃ s, Bag w0 w' (rdS R a c bs s :: rfS X a2 c2 bs s :: l)
theorem hash_len (bs : List Int) (s : St) : (rO (zz 32) (rowO 32 bs) s).1.length = 32 := by
  cases s with
  | inl f => rfl
  | inr p =>
    rcases ho : rowO 32 bs p with cd | x
    · rw [rO_l ho]; rfl
    · rw [rO_r ho]
      unfold rowO at ho
      split at ho
      · cases ho
      · cases ho
        simp only [List.length_take, List.length_drop]
        omega
theorem last3 {w0 w : World} {o1 o2 o3 : Thg} {l : List Thg} (h : Bag w0 w (o1 :: o2 :: o3 :: l)) : Bag w0 w (o2 :: o1 :: l) :=
  (h.perm (l' := o3 :: o2 :: o1 :: l) ((List.Perm.swap _ _ _).trans ((List.Perm.cons _ (.swap _ _ _)).trans (.swap _ _ _)))).drop
theorem first3 {w0 w : World} {o1 o2 o3 : Thg} {l : List Thg} (h : Bag w0 w (o1 :: o2 :: o3 :: l)) : Bag w0 w (o2 :: o3 :: o1 :: l) :=
  h.perm ((List.Perm.swap _ _ _).trans (List.Perm.cons _ (.swap _ _ _)))
set_option maxHeartbeats 4000000 in
set_option maxRecDepth 10000 in
theorem reads0 (w0 w : World) (l : List Thg) (R X : Nat) (a a2 : Option Addr) (c c2 : Nat) (bs : List Int) (s : St) (t : Td) (hk : t.kd = 0) (hs : bs.length ≤ 1099511627776) (hr : rng bs) (h : Bag w0 w (rdS R a c bs s :: rfS X a2 c2 bs s :: l)) :
    Calls Try.prog 30 #[.pointer (some ⟨R, 0, none⟩), .pointer (some ⟨X, 0, none⟩), .agg t.cells.toArray] w (Alike w0 l R X a a2 c c2 bs) := by
  obtain ⟨W0, e0⟩ : ∃ X, X = PW w t := ⟨_, rfl⟩
  have hA : At W0 w.heap.size 39 t.cells := by rw [e0]; exact PW_at _ _
  have hb0 : Bag w0 W0 (rdS R a c bs s :: rfS X a2 c2 bs s :: box 39 w.heap.size t.cells :: l) := by
    rw [e0]
    exact first3 (bag_box h rfl (PW_at _ _) (PW_below _ _))
  have c0 : W0.cell? ⟨w.heap.size, 0, none⟩ = some (.int .i64 0) := by rw [hA.cell, ← hk]; rfl
  obtain ⟨x, s2, hx⟩ : ∃ x s2, rN bs s = (x, s2) := ⟨_, _, rfl⟩
  have CP := WirS.hide (show ∀ U L, Bag w0 U (rdS R a c bs s :: L) → Calls Try.prog 35 #[.pointer (some ⟨R, 0, none⟩)] U (fun e w' => e = .returned (.int .i64 x) ∧ Bag w0 w' (rdS R a c bs s2 :: L)) from fun U L hU => by have := s_num hU; rw [hx] at this; exact this)
  have CX := WirS.hide (show ∀ U L, Bag w0 U (rfS X a2 c2 bs s :: L) → Calls Try.prog 89 #[.pointer (some ⟨X, 0, none⟩)] U (fun e w' => e = .returned (.int .i64 x) ∧ Bag w0 w' (rfS X a2 c2 bs s2 :: L)) from fun U L hU => by have := x_act hU (rs_num U X a2 c2 bs s hU.head hs hr); rw [hx] at this; exact this)
  have hq : (x == x) = true := by simp
  have HB := WirS.hide hb0
  have E0 := WirS.hide e0
  clear hA hk e0 hb0 h hs hr hx
  go_enter Try.func30, Try.ntmps30
  go_upto_region 1 with fail
  rw [show w.alloc (.cells t.cells.toArray 39) = W0 from E0.out.symm]
  generalize w.heap.size = Y at *
  clear E0
  go_wp2_with (first | (go_at_call 35; with_reducible refine (CP.out _ _ HB.out).mono ?_; rintro e w1 ⟨rfl, hb⟩; have HB1 := WirS.hide hb.swap; clear hb) | (go_at_call 89; with_reducible refine (CX.out _ _ HB1.out).mono ?_; rintro e w2 ⟨rfl, hb⟩; have HB2 := WirS.hide hb; clear hb))
  go_ret
  exact ⟨rfl, s2, last3 HB2.out⟩
set_option maxHeartbeats 4000000 in
set_option maxRecDepth 10000 in
theorem reads5 (w0 w : World) (l : List Thg) (R X : Nat) (a a2 : Option Addr) (c c2 : Nat) (bs : List Int) (s : St) (t : Td) (hk : t.kd = 5) (hs : bs.length ≤ 1099511627776) (hr : rng bs) (h : Bag w0 w (rdS R a c bs s :: rfS X a2 c2 bs s :: l)) :
    Calls Try.prog 30 #[.pointer (some ⟨R, 0, none⟩), .pointer (some ⟨X, 0, none⟩), .agg t.cells.toArray] w (Alike w0 l R X a a2 c c2 bs) := by
  obtain ⟨W0, e0⟩ : ∃ X, X = PW w t := ⟨_, rfl⟩
  have hA : At W0 w.heap.size 39 t.cells := by rw [e0]; exact PW_at _ _
  have hb0 : Bag w0 W0 (rdS R a c bs s :: rfS X a2 c2 bs s :: box 39 w.heap.size t.cells :: l) := by
    rw [e0]
    exact first3 (bag_box h rfl (PW_at _ _) (PW_below _ _))
  have c0 : W0.cell? ⟨w.heap.size, 0, none⟩ = some (.int .i64 5) := by rw [hA.cell, ← hk]; rfl
  obtain ⟨x, s2, hx⟩ : ∃ x s2, rO 0 (wordO bs) s = (x, s2) := ⟨_, _, rfl⟩
  have CP := WirS.hide (show ∀ U L, Bag w0 U (rdS R a c bs s :: L) → Calls Try.prog 40 #[.pointer (some ⟨R, 0, none⟩)] U (fun e w' => e = .returned (.int .u64 x) ∧ Bag w0 w' (rdS R a c bs s2 :: L)) from fun U L hU => by have := p_word hU; rw [hx] at this; exact this)
  have CX := WirS.hide (show ∀ U L, Bag w0 U (rfS X a2 c2 bs s :: L) → Calls Try.prog 94 #[.pointer (some ⟨X, 0, none⟩)] U (fun e w' => e = .returned (.int .u64 x) ∧ Bag w0 w' (rfS X a2 c2 bs s2 :: L)) from fun U L hU => by have := x_act hU (rs_word U X a2 c2 bs s hU.head hs hr); rw [hx] at this; exact this)
  have hq : (x == x) = true := by simp
  have HB := WirS.hide hb0
  have E0 := WirS.hide e0
  clear hA hk e0 hb0 h hs hr hx
  go_enter Try.func30, Try.ntmps30
  go_upto_region 1 with fail
  rw [show w.alloc (.cells t.cells.toArray 39) = W0 from E0.out.symm]
  generalize w.heap.size = Y at *
  clear E0
  go_wp2_with (first | (go_at_call 40; with_reducible refine (CP.out _ _ HB.out).mono ?_; rintro e w1 ⟨rfl, hb⟩; have HB1 := WirS.hide hb.swap; clear hb) | (go_at_call 94; with_reducible refine (CX.out _ _ HB1.out).mono ?_; rintro e w2 ⟨rfl, hb⟩; have HB2 := WirS.hide hb; clear hb))
  go_ret
  exact ⟨rfl, s2, last3 HB2.out⟩
set_option maxHeartbeats 4000000 in
set_option maxRecDepth 10000 in
theorem reads7 (w0 w : World) (l : List Thg) (R X : Nat) (a a2 : Option Addr) (c c2 : Nat) (bs : List Int) (s : St) (t : Td) (hk : t.kd = 7) (hs : bs.length ≤ 1099511627776) (_ : rng bs) (h : Bag w0 w (rdS R a c bs s :: rfS X a2 c2 bs s :: l)) :
    Calls Try.prog 30 #[.pointer (some ⟨R, 0, none⟩), .pointer (some ⟨X, 0, none⟩), .agg t.cells.toArray] w (Alike w0 l R X a a2 c c2 bs) := by
  obtain ⟨W0, e0⟩ : ∃ X, X = PW w t := ⟨_, rfl⟩
  have hA : At W0 w.heap.size 39 t.cells := by rw [e0]; exact PW_at _ _
  have hb0 : Bag w0 W0 (rdS R a c bs s :: rfS X a2 c2 bs s :: box 39 w.heap.size t.cells :: l) := by
    rw [e0]
    exact first3 (bag_box h rfl (PW_at _ _) (PW_below _ _))
  have c0 : W0.cell? ⟨w.heap.size, 0, none⟩ = some (.int .i64 7) := by rw [hA.cell, ← hk]; rfl
  obtain ⟨x, s2, hx⟩ : ∃ x s2, rO false (boolO bs) s = (x, s2) := ⟨_, _, rfl⟩
  have CP := WirS.hide (show ∀ U L, Bag w0 U (rdS R a c bs s :: L) → Calls Try.prog 42 #[.pointer (some ⟨R, 0, none⟩)] U (fun e w' => e = .returned (.bool x) ∧ Bag w0 w' (rdS R a c bs s2 :: L)) from fun U L hU => by have := p_bool hU; rw [hx] at this; exact this)
  have CX := WirS.hide (show ∀ U L, Bag w0 U (rfS X a2 c2 bs s :: L) → Calls Try.prog 97 #[.pointer (some ⟨X, 0, none⟩)] U (fun e w' => e = .returned (.bool x) ∧ Bag w0 w' (rfS X a2 c2 bs s2 :: L)) from fun U L hU => by have := x_act hU (rs_bool U X a2 c2 bs s hU.head hs); rw [hx] at this; exact this)
  have hq : (x == x) = true := by simp
  have HB := WirS.hide hb0
  have E0 := WirS.hide e0
  clear hA hk e0 hb0 h hs  hx
  go_enter Try.func30, Try.ntmps30
  go_upto_region 1 with fail
  rw [show w.alloc (.cells t.cells.toArray 39) = W0 from E0.out.symm]
  generalize w.heap.size = Y at *
  clear E0
  go_wp2_with (first | (go_at_call 42; with_reducible refine (CP.out _ _ HB.out).mono ?_; rintro e w1 ⟨rfl, hb⟩; have HB1 := WirS.hide hb.swap; clear hb) | (go_at_call 97; with_reducible refine (CX.out _ _ HB1.out).mono ?_; rintro e w2 ⟨rfl, hb⟩; have HB2 := WirS.hide hb; clear hb))
  go_ret
  exact ⟨rfl, s2, last3 HB2.out⟩
set_option maxHeartbeats 4000000 in
set_option maxRecDepth 10000 in
theorem reads3 (w0 w : World) (l : List Thg) (R X : Nat) (a a2 : Option Addr) (c c2 : Nat) (bs : List Int) (s : St) (t : Td) (hk : t.kd = 3) (hs : bs.length ≤ 1099511627776) (_ : rng bs) (h : Bag w0 w (rdS R a c bs s :: rfS X a2 c2 bs s :: l)) :
    Calls Try.prog 30 #[.pointer (some ⟨R, 0, none⟩), .pointer (some ⟨X, 0, none⟩), .agg t.cells.toArray] w (Alike w0 l R X a a2 c c2 bs) := by
  obtain ⟨W0, e0⟩ : ∃ X, X = PW w t := ⟨_, rfl⟩
  have hA : At W0 w.heap.size 39 t.cells := by rw [e0]; exact PW_at _ _
  have hb0 : Bag w0 W0 (rdS R a c bs s :: rfS X a2 c2 bs s :: box 39 w.heap.size t.cells :: l) := by
    rw [e0]
    exact first3 (bag_box h rfl (PW_at _ _) (PW_below _ _))
  have c0 : W0.cell? ⟨w.heap.size, 0, none⟩ = some (.int .i64 3) := by rw [hA.cell, ← hk]; rfl
  have hl := hash_len bs s
  obtain ⟨x, s2, hx⟩ : ∃ x s2, rO (zz 32) (rowO 32 bs) s = (x, s2) := ⟨_, _, rfl⟩
  rw [hx] at hl
  have CP := WirS.hide (show ∀ U L, Bag w0 U (rdS R a c bs s :: L) → Calls Try.prog 38 #[.pointer (some ⟨R, 0, none⟩)] U (fun e w' => e = .returned (aggB x) ∧ Bag w0 w' (rdS R a c bs s2 :: L)) from fun U L hU => by have := p_hash hU; rw [hx] at this; exact this)
  have CX := WirS.hide (show ∀ U L, Bag w0 U (rfS X a2 c2 bs s :: L) → Calls Try.prog 92 #[.pointer (some ⟨X, 0, none⟩)] U (fun e w' => e = .returned (aggB x) ∧ Bag w0 w' (rfS X a2 c2 bs s2 :: L)) from fun U L hU => by have := x_act hU (rs_hash U X a2 c2 bs s hU.head hs); rw [hx] at this; exact this)
  have hq : ∀ W, (binOp .eql 34 (aggB x) (aggB x)).run Try.prog W = .ok (.bool true) W := fun W => by have := WirBE.eqHg x x hl hl W; simpa [aggB] using this
  have hgd : ∀ W, (eqGuard .eql 34 (.tmp 47) (.tmp 49) (aggB x) (aggB x)).run Try.prog W = .ok () W := fun W => by kernel_rfl
  have HB := WirS.hide hb0
  have E0 := WirS.hide e0
  clear hA hk e0 hb0 h hs  hx hl
  go_enter Try.func30, Try.ntmps30
  go_upto_region 1 with fail
  rw [show w.alloc (.cells t.cells.toArray 39) = W0 from E0.out.symm]
  generalize w.heap.size = Y at *
  clear E0
  go_wp2_with (first | (go_at_call 38; with_reducible refine (CP.out _ _ HB.out).mono ?_; rintro e w1 ⟨rfl, hb⟩; have HB1 := WirS.hide hb.swap; clear hb) | (go_at_call 92; with_reducible refine (CX.out _ _ HB1.out).mono ?_; rintro e w2 ⟨rfl, hb⟩; have HB2 := WirS.hide hb; clear hb))
  go_ret
  exact ⟨rfl, s2, last3 HB2.out⟩
set_option maxHeartbeats 4000000 in
set_option maxRecDepth 10000 in
theorem reads4 (w0 w : World) (l : List Thg) (R X : Nat) (a a2 : Option Addr) (c c2 : Nat) (bs : List Int) (s : St) (t : Td) (hk : t.kd = 4) (hs : bs.length ≤ 1099511627776) (_ : rng bs) (h : Bag w0 w (rdS R a c bs s :: rfS X a2 c2 bs s :: l)) :
    Calls Try.prog 30 #[.pointer (some ⟨R, 0, none⟩), .pointer (some ⟨X, 0, none⟩), .agg t.cells.toArray] w (Alike w0 l R X a a2 c c2 bs) := by
  obtain ⟨W0, e0⟩ : ∃ X, X = PW w t := ⟨_, rfl⟩
  have hA : At W0 w.heap.size 39 t.cells := by rw [e0]; exact PW_at _ _
  have hb0 : Bag w0 W0 (rdS R a c bs s :: rfS X a2 c2 bs s :: box 39 w.heap.size t.cells :: l) := by
    rw [e0]
    exact first3 (bag_box h rfl (PW_at _ _) (PW_below _ _))
  have c0 : W0.cell? ⟨w.heap.size, 0, none⟩ = some (.int .i64 4) := by rw [hA.cell, ← hk]; rfl
  obtain ⟨x, s2, hx⟩ : ∃ x s2, rK bs s = (x, s2) := ⟨_, _, rfl⟩
  obtain ⟨k0, ek0⟩ : ∃ k, k = x.getD 0 0 := ⟨_, rfl⟩
  obtain ⟨k1, ek1⟩ : ∃ k, k = x.getD 1 0 := ⟨_, rfl⟩
  obtain ⟨k2, ek2⟩ : ∃ k, k = x.getD 2 0 := ⟨_, rfl⟩
  obtain ⟨k3, ek3⟩ : ∃ k, k = x.getD 3 0 := ⟨_, rfl⟩
  have CP := WirS.hide (show ∀ U L, Bag w0 U (rdS R a c bs s :: L) → Calls Try.prog 39 #[.pointer (some ⟨R, 0, none⟩)] U (fun e w' => e = .returned (.agg #[.int .u8 k0, .int .u8 k1, .int .u8 k2, .int .u8 k3]) ∧ Bag w0 w' (rdS R a c bs s2 :: L)) from fun U L hU => by have := s_key hU; rw [hx] at this; rw [ek0, ek1, ek2, ek3]; exact this)
  have CX := WirS.hide (show ∀ U L, Bag w0 U (rfS X a2 c2 bs s :: L) → Calls Try.prog 93 #[.pointer (some ⟨X, 0, none⟩)] U (fun e w' => e = .returned (.agg #[.int .u8 k0, .int .u8 k1, .int .u8 k2, .int .u8 k3]) ∧ Bag w0 w' (rfS X a2 c2 bs s2 :: L)) from fun U L hU => by have := x_act hU (ValSD.rs_key U X a2 c2 bs s hU.head hs); rw [hx] at this; rw [ek0, ek1, ek2, ek3]; exact this)
  have hq : ∀ W, (binOp .eql 36 (.agg #[.int .u8 k0, .int .u8 k1, .int .u8 k2, .int .u8 k3]) (.agg #[.int .u8 k0, .int .u8 k1, .int .u8 k2, .int .u8 k3])).run Try.prog W = .ok (.bool true) W := fun W => by have := WirBE.eqKg [k0, k1, k2, k3] [k0, k1, k2, k3] rfl rfl W; simpa [b8] using this
  have hgd : ∀ W, (eqGuard .eql 36 (.tmp 54) (.tmp 56) (.agg #[.int .u8 k0, .int .u8 k1, .int .u8 k2, .int .u8 k3]) (.agg #[.int .u8 k0, .int .u8 k1, .int .u8 k2, .int .u8 k3])).run Try.prog W = .ok () W := fun W => by kernel_rfl
  have HB := WirS.hide hb0
  have E0 := WirS.hide e0
  clear hA hk e0 hb0 h hs  hx ek0 ek1 ek2 ek3
  go_enter Try.func30, Try.ntmps30
  go_upto_region 1 with fail
  rw [show w.alloc (.cells t.cells.toArray 39) = W0 from E0.out.symm]
  generalize w.heap.size = Y at *
  clear E0
  go_wp2_with (first | (go_at_call 39; with_reducible refine (CP.out _ _ HB.out).mono ?_; rintro e w1 ⟨rfl, hb⟩; have HB1 := WirS.hide hb.swap; clear hb) | (go_at_call 93; with_reducible refine (CX.out _ _ HB1.out).mono ?_; rintro e w2 ⟨rfl, hb⟩; have HB2 := WirS.hide hb; clear hb))
  go_ret
  exact ⟨rfl, s2, last3 HB2.out⟩
set_option maxHeartbeats 4000000 in
set_option maxRecDepth 10000 in
theorem reads6 (w0 w : World) (l : List Thg) (R X : Nat) (a a2 : Option Addr) (c c2 : Nat) (bs : List Int) (s : St) (t : Td) (hk : t.kd = 6) (hs : bs.length ≤ 1099511627776) (hr : rng bs) (h : Bag w0 w (rdS R a c bs s :: rfS X a2 c2 bs s :: l)) :
    Calls Try.prog 30 #[.pointer (some ⟨R, 0, none⟩), .pointer (some ⟨X, 0, none⟩), .agg t.cells.toArray] w (Alike w0 l R X a a2 c c2 bs) := by
  obtain ⟨W0, e0⟩ : ∃ X, X = PW w t := ⟨_, rfl⟩
  have hA : At W0 w.heap.size 39 t.cells := by rw [e0]; exact PW_at _ _
  have hb0 : Bag w0 W0 (rdS R a c bs s :: rfS X a2 c2 bs s :: box 39 w.heap.size t.cells :: l) := by
    rw [e0]
    exact first3 (bag_box h rfl (PW_at _ _) (PW_below _ _))
  have c0 : W0.cell? ⟨w.heap.size, 0, none⟩ = some (.int .i64 6) := by rw [hA.cell, ← hk]; rfl
  obtain ⟨x, s2, hx⟩ : ∃ x s2, rO 0 (paceO bs) s = (x, s2) := ⟨_, _, rfl⟩
  have CP := WirS.hide (show ∀ U L, Bag w0 U (rdS R a c bs s :: L) → Calls Try.prog 41 #[.pointer (some ⟨R, 0, none⟩)] U (fun e w' => e = .returned (.float .f64 x) ∧ Bag w0 w' (rdS R a c bs s2 :: L)) from fun U L hU => by have := p_pace hU; rw [hx] at this; exact this)
  have CX := WirS.hide (show ∀ U L, Bag w0 U (rfS X a2 c2 bs s :: L) → Calls Try.prog 96 #[.pointer (some ⟨X, 0, none⟩)] U (fun e w' => e = .returned (.float .f64 x) ∧ Bag w0 w' (rfS X a2 c2 bs s2 :: L)) from fun U L hU => by have := x_act hU (ValSL.rs_pace U X a2 c2 bs s hU.head hs hr); rw [hx] at this; exact this)
  have CB := WirS.hide (fun U => PaceA.rbits_any x U)
  obtain ⟨y, hy⟩ : ∃ y : Nat, FltC.canon x = y := ⟨_, rfl⟩
  rw [hy] at CB
  have hq : ((y : Int) == (y : Int)) = true := by simp
  have HB := WirS.hide hb0
  have E0 := WirS.hide e0
  clear hA hk e0 hb0 h hs hr hx hy
  go_enter Try.func30, Try.ntmps30
  go_upto_region 1 with fail
  rw [show w.alloc (.cells t.cells.toArray 39) = W0 from E0.out.symm]
  generalize w.heap.size = Y at *
  clear E0
  go_wp2_with (first | (go_at_call 41; with_reducible refine (CP.out _ _ HB.out).mono ?_; rintro e w1 ⟨rfl, hb⟩; have HB1 := WirS.hide hb.swap; clear hb) | (go_at_call 96; with_reducible refine (CX.out _ _ HB1.out).mono ?_; rintro e w2 ⟨rfl, hb⟩; have HB2 := WirS.hide hb; clear hb) | (go_at_call 95; with_reducible refine (CB.out _).mono ?_; rintro e _ ⟨rfl, rfl⟩))
  go_ret
  exact ⟨rfl, s2, last3 HB2.out⟩
set_option maxHeartbeats 4000000 in
set_option maxRecDepth 10000 in
theorem reads1 (w0 w : World) (l : List Thg) (R X : Nat) (a a2 : Option Addr) (c c2 : Nat) (bs : List Int) (s : St) (t : Td) (hk : t.kd = 1) (hn1 : -9223372036854775808 ≤ t.n) (hn2 : t.n ≤ 9223372036854775807) (hs : bs.length ≤ 1099511627776) (hr : rng bs) (h : Bag w0 w (rdS R a c bs s :: rfS X a2 c2 bs s :: l)) :
    Calls Try.prog 30 #[.pointer (some ⟨R, 0, none⟩), .pointer (some ⟨X, 0, none⟩), .agg t.cells.toArray] w (Alike w0 l R X a a2 c c2 bs) := by
  obtain ⟨W0, e0⟩ : ∃ X, X = PW w t := ⟨_, rfl⟩
  have hA : At W0 w.heap.size 39 t.cells := by rw [e0]; exact PW_at _ _
  have hb0 : Bag w0 W0 (rdS R a c bs s :: rfS X a2 c2 bs s :: box 39 w.heap.size t.cells :: l) := by
    rw [e0]
    exact first3 (bag_box h rfl (PW_at _ _) (PW_below _ _))
  have c0 : W0.cell? ⟨w.heap.size, 0, none⟩ = some (.int .i64 1) := by rw [hA.cell, ← hk]; rfl
  obtain ⟨m, hm⟩ : ∃ m, t.n = m := ⟨_, rfl⟩
  have c1 : W0.cell? ⟨w.heap.size, 1, none⟩ = some (.int .i64 m) := by rw [← hm]; exact (hA.cell 1).trans rfl
  have g1 : t.cells[1]? = some (.int .i64 m) := by rw [← hm]; rfl
  rw [hm] at hn1 hn2
  obtain ⟨xs, s2, hx⟩ : ∃ x s2, rO [] (fun p => sizedO bs p m) s = (x, s2) := ⟨_, _, rfl⟩
  obtain ⟨x, hxs⟩ : ∃ x, st xs = x := ⟨_, rfl⟩
  have CP := WirS.hide (show ∀ U L, Bag w0 U (rdS R a c bs s :: L) → Calls Try.prog 36 #[.pointer (some ⟨R, 0, none⟩), .int .i64 m] U (fun e w' => e = .returned (.string x) ∧ Bag w0 w' (rdS R a c bs s2 :: L)) from fun U L hU => by have := p_text m hU; rw [hx] at this; rw [hxs] at this; exact this)
  have CX := WirS.hide (show ∀ U L, Bag w0 U (rfS X a2 c2 bs s :: L) → Calls Try.prog 90 #[.pointer (some ⟨X, 0, none⟩), .int .i64 m] U (fun e w' => e = .returned (.string x) ∧ Bag w0 w' (rfS X a2 c2 bs s2 :: L)) from fun U L hU => by have := x_act hU (ValSL.rs_text U X a2 c2 bs s m hn1 hn2 hU.head hs hr); rw [hx] at this; rw [hxs] at this; exact this)
  have hq : (x.toList == x.toList) = true := by simp
  have HB := WirS.hide hb0
  have E0 := WirS.hide e0
  clear hA hk e0 hb0 h hs hr hx hxs hm hn1 hn2
  go_enter Try.func30, Try.ntmps30
  go_upto_region 1 with fail
  rw [show w.alloc (.cells t.cells.toArray 39) = W0 from E0.out.symm]
  generalize w.heap.size = Y at *
  clear E0
  go_upto_region 5 with fail
  go_region_held3 (fun w' => w'.cell? ⟨Y, 1, none⟩ = some (.int .i64 m)) (go_keep)
    (first | (go_at_call 36; refine (CP.out _ _ (HB.out.more (below_drewN (Below.refl _ _) 1))).mono ?_; rintro e w1 ⟨rfl, hb⟩; have c1' : w1.cell? ⟨Y, 1, none⟩ = some (.int .i64 m) := ((first3 (first3 hb)).head.cell 1).trans g1; have HB1 := WirS.hide hb.swap; clear hb) | (go_at_call 90; refine (CX.out _ _ HB1.out).mono ?_; rintro e w2 ⟨rfl, hb⟩; have c1'' : w2.cell? ⟨Y, 1, none⟩ = some (.int .i64 m) := ((first3 (first3 hb)).head.cell 1).trans g1; have HB2 := WirS.hide hb; clear hb))
  go_wp2_with fail
  go_ret
  exact ⟨rfl, s2, last3 HB2.out⟩
theorem last4 {w0 w : World} {o1 o2 o3 o4 : Thg} {l : List Thg} (h : Bag w0 w (o1 :: o2 :: o3 :: o4 :: l)) : Bag w0 w (o3 :: o2 :: l) := (first3 (first3 h.drop)).drop.swap |> fun h => by first | exact h | exact h.swap
theorem rO_len (most : Int) (bs : List Int) (s : St) : (rO [] (fun p => sizedO bs p most) s).1.length ≤ bs.length := by
  cases s with
  | inl f => exact Nat.zero_le _
  | inr p =>
    rcases ho : sizedO bs p most with cd | x
    · rw [rO_l (o := fun p => sizedO bs p most) ho]
      exact Nat.zero_le _
    · rw [rO_r (o := fun p => sizedO bs p most) ho]
      unfold sizedO at ho
      repeat' split at ho
      all_goals first | (cases ho; simp only [List.length_take, List.length_drop]; omega) | (simp at ho; done)
set_option maxHeartbeats 4000000 in
set_option maxRecDepth 10000 in
theorem reads2 (w0 w : World) (l : List Thg) (R X : Nat) (a a2 : Option Addr) (c c2 : Nat) (bs : List Int) (s : St) (t : Td) (hk : t.kd = 2) (hn1 : -9223372036854775808 ≤ t.n) (hn2 : t.n ≤ 9223372036854775807) (hs : bs.length ≤ 1099511627776) (hr : rng bs) (h : Bag w0 w (rdS R a c bs s :: rfS X a2 c2 bs s :: l)) :
    Calls Try.prog 30 #[.pointer (some ⟨R, 0, none⟩), .pointer (some ⟨X, 0, none⟩), .agg t.cells.toArray] w (Alike w0 l R X a a2 c c2 bs) := by
  obtain ⟨W0, e0⟩ : ∃ X, X = PW w t := ⟨_, rfl⟩
  have hA : At W0 w.heap.size 39 t.cells := by rw [e0]; exact PW_at _ _
  have hb0 : Bag w0 W0 (rdS R a c bs s :: rfS X a2 c2 bs s :: box 39 w.heap.size t.cells :: l) := by
    rw [e0]
    exact first3 (bag_box h rfl (PW_at _ _) (PW_below _ _))
  have c0 : W0.cell? ⟨w.heap.size, 0, none⟩ = some (.int .i64 2) := by rw [hA.cell, ← hk]; rfl
  obtain ⟨m, hm⟩ : ∃ m, t.n = m := ⟨_, rfl⟩
  have c1 : W0.cell? ⟨w.heap.size, 1, none⟩ = some (.int .i64 m) := by rw [← hm]; exact (hA.cell 1).trans rfl
  have g1 : t.cells[1]? = some (.int .i64 m) := by rw [← hm]; rfl
  rw [hm] at hn1 hn2
  obtain ⟨xs, s2, hx⟩ : ∃ x s2, rO [] (fun p => sizedO bs p m) s = (x, s2) := ⟨_, _, rfl⟩
  have hrx : rng xs := by have := rO_rng hr m s; rw [hx] at this; exact this
  have CP := WirS.hide (show ∀ U L, Bag w0 U (rdS R a c bs s :: L) → Calls Try.prog 37 #[.pointer (some ⟨R, 0, none⟩), .int .i64 m] U (fun e w' => ∃ va vn vc, e = .returned (.slice va vn vc) ∧ Bag w0 w' (own (.slice va vn vc) xs :: rdS R a c bs s2 :: L)) from fun U L hU => by have := p_bytes m hU; rw [hx] at this; exact this)
  have CX := WirS.hide (show ∀ U L, Bag w0 U (rfS X a2 c2 bs s :: L) → Calls Try.prog 91 #[.pointer (some ⟨X, 0, none⟩), .int .i64 m] U (fun e w' => ∃ va vn vc, e = .returned (.slice va vn vc) ∧ BIn w' (.slice va vn vc) xs ∧ Bag w0 w' (rfS X a2 c2 bs s2 :: L)) from fun U L hU => by
    refine (rs_bytes U X a2 c2 bs s m hn1 hn2 hU.head hs hr).mono ?_
    rw [hx]
    rintro e w' ⟨va, vn, vc, h1, h2, h3, h4, _⟩
    exact ⟨va, vn, vc, h1, h2, hU.act (o' := rfS X a2 c2 bs s2) (h4.mono fun _ _ hx => .inl hx) h3 (fun _ hk => .inl hk)⟩)
  have HRX := WirS.hide hrx
  have HXL := WirS.hide (show xs.length ≤ bs.length from by have := rO_len m bs s; rw [hx] at this; exact this)
  have HBS := WirS.hide hs
  have HB := WirS.hide hb0
  have E0 := WirS.hide e0
  clear hA hk e0 hb0 h hs hr hx hm hn1 hn2 hrx
  go_enter Try.func30, Try.ntmps30
  go_upto_region 1 with fail
  rw [show w.alloc (.cells t.cells.toArray 39) = W0 from E0.out.symm]
  generalize w.heap.size = Y at *
  clear E0
  go_upto_region 8 with (go_at_call 37; refine (CP.out _ _ HB.out).mono ?_; rintro e w1 ⟨va, vn, vc, rfl, hb⟩; have c1' : w1.cell? ⟨Y, 1, none⟩ = some (.int .i64 m) := ((hb.drop.drop).swap.head.cell 1).trans g1; have HB1 := WirS.hide (first3 (hb.perm (l' := rdS R a c bs s2 :: own (.slice va vn vc) xs :: rfS X a2 c2 bs s :: box 39 Y t.cells :: l) (.swap _ _ _))).swap; clear hb)
  clear c0 c1
  go_upto_region 9 with (first | (go_at_call 91; refine (CX.out _ _ HB1.out).mono ?_; rintro e w2 ⟨ya, yn, yc, rfl, hy, hb⟩; have HS := WirS.hide (WirU.same_any w2 va ya vn vc yn yc xs xs (WirM.Own.bin hb.swap.head) hy HRX.out HRX.out); have HB2 := WirS.hide hb.swap; clear hb hy) | (go_at_call 27; with_reducible refine (HS.out).mono ?_; rintro e _ ⟨rfl, rfl⟩))
  have HVN := WirS.hide (show vn ≤ 1099511627776 from by
    obtain ⟨_, _, e, _⟩ := WirM.Own.bin HB2.out.head
    injection e with _ e _
    have h1 := HXL.out
    have h2 := HBS.out
    omega)
  go_wp2_with (go_at_call 24; refine (KitB.over_any _ va vn vc xs HB2.out.head HVN.out).mono ?_; rintro e w3 ⟨rfl, ⟨zs, _, ho⟩, hf⟩; have HB3 := WirS.hide (HB2.out.act (o' := own (.slice va vn vc) zs) hf ho (fun _ hk => .inl hk)); clear ho hf)
  go_ret
  exact ⟨by simp, s2, last4 HB3.out⟩
theorem readsE (w0 w : World) (l : List Thg) (p q : Value) (t : Td) (hk : ¬ (0 ≤ t.kd ∧ t.kd ≤ 7)) (h : Bag w0 w l) :
    Calls Try.prog 30 #[p, q, .agg t.cells.toArray] w (fun e w' => e = .returned (.bool true) ∧ Bag w0 w' l) := by
  obtain ⟨W0, e0⟩ : ∃ X, X = PW w t := ⟨_, rfl⟩
  have hA : At W0 w.heap.size 39 t.cells := by rw [e0]; exact PW_at _ _
  have hb0 : Bag w0 W0 l := by rw [e0]; exact h.more (PW_below _ _)
  have c0 : W0.cell? ⟨w.heap.size, 0, none⟩ = some (.int .i64 t.kd) := by rw [hA.cell]; rfl
  have n0 : (t.kd == 0) = false := by simp; omega
  have n1 : (t.kd == 1) = false := by simp; omega
  have n2 : (t.kd == 2) = false := by simp; omega
  have n3 : (t.kd == 3) = false := by simp; omega
  have n4 : (t.kd == 4) = false := by simp; omega
  have n5 : (t.kd == 5) = false := by simp; omega
  have n6 : (t.kd == 6) = false := by simp; omega
  have n7 : (t.kd == 7) = false := by simp; omega
  have HB := WirS.hide hb0
  have E0 := WirS.hide e0
  clear hA hk e0 hb0 h
  go_enter Try.func30, Try.ntmps30
  go_upto_region 1 with fail
  rw [show w.alloc (.cells t.cells.toArray 39) = W0 from E0.out.symm]
  generalize w.heap.size = Y at *
  generalize t.kd = kd at *
  clear E0
  go_wp2_with fail
  go_ret
  exact ⟨rfl, HB.out⟩
end ValSO
end Go.Proofs.Ythhnojnpjbklpaa

namespace Go.Proofs.Ythhnojnpjbklpaa
namespace ValSP
open Go.RowKit
open BlkM WirM WirS ValSA ValSC ValK ValSK ValSM ValSN ValSO ValSF
open WirX (Thg Bag own)
open WirBA (Te LIn isLong long_any long_no)
open WirBF (opX)
open WirRT (rng)

/-- Bytes that are lent, as an object. -/
def lentT (g n c : Nat) (bs : List Int) : Thg where
  ok w := Lent w g n c bs
  foot k := k = g
  stable h hf hX := h.fr hf (hX g rfl)
  inside h k hk := by subst hk; exact h.lt
theorem bag_rfS {w0 w w' : World} {l : List Thg} {R : Nat} {a : Option Addr} {c : Nat} {bs : List Int} (h : Bag w0 w l) (hR : w.heap.size ≤ R) (hs : RR w' R a c bs 0 0 0) (hn : ∀ k, (Value.slice a bs.length c).ownBlock = some k → w.heap.size ≤ k) (hb : Below w.heap.size w w') : Bag w0 w' (rfS R a c bs (.inr 0) :: l) :=
  h.new hb (show RS w' R a c bs (.inr 0) from ⟨Nat.zero_le _, hs⟩) (fun k hk => by
    rcases hk with rfl | hk
    · exact hR
    · exact hn k hk)
/-- reads, of whatever kind. -/
theorem reads_te (w0 w U : World) (l : List Thg) (R X : Nat) (a a2 : Option Addr) (c c2 : Nat) (bs : List Int) (s : St) (x : Te) (hw : WirNA.Wf w0 x.t x.va x.vn x.vc x.zs) (hs : bs.length ≤ 1099511627776) (hr : rng bs) (h : Bag w U (rdS R a c bs s :: rfS X a2 c2 bs s :: l)) :
    Calls Try.prog 30 #[.pointer (some ⟨R, 0, none⟩), .pointer (some ⟨X, 0, none⟩), .agg x.t.cells.toArray] U (ValSO.Alike w l R X a a2 c c2 bs) := by
  have h0 := hw.n0
  have h1 := hw.n1
  by_cases hk : 0 ≤ x.t.kd ∧ x.t.kd ≤ 7
  · obtain k | k | k | k | k | k | k | k : x.t.kd = 0 ∨ x.t.kd = 1 ∨ x.t.kd = 2 ∨ x.t.kd = 3 ∨ x.t.kd = 4 ∨ x.t.kd = 5 ∨ x.t.kd = 6 ∨ x.t.kd = 7 := by omega
    · exact reads0 w U l R X a a2 c c2 bs s x.t k hs hr h
    · exact reads1 w U l R X a a2 c c2 bs s x.t k h0 h1 hs hr h
    · exact reads2 w U l R X a a2 c c2 bs s x.t k h0 h1 hs hr h
    · exact reads3 w U l R X a a2 c c2 bs s x.t k hs hr h
    · exact reads4 w U l R X a a2 c c2 bs s x.t k hs hr h
    · exact reads5 w U l R X a a2 c c2 bs s x.t k hs hr h
    · exact reads6 w U l R X a a2 c c2 bs s x.t k hs hr h
    · exact reads7 w U l R X a a2 c c2 bs s x.t k hs hr h
  · exact (readsE w U _ _ _ x.t hk h).mono fun e w' ⟨h1, h2⟩ => ⟨h1, s, h2⟩
def MidR (w : World) (R X : Nat) (a a2 : Option Addr) (c c2 : Nat) (bs : List Int) (ln : Nat) (i : Value) (U : World) : Prop :=
  ∃ (k : Nat) (s : St), k ≤ ln ∧ i = .int .i64 (k : Int) ∧ Bag w U [rdS R a c bs s, rfS X a2 c2 bs s]
set_option maxRecDepth 10000 in
set_option maxHeartbeats 8000000 in
theorem reads_row (w : World) (b : Option Addr) (n c : Nat) (bs : List Int) (la : Option Addr) (ln lc : Nat) (ts : List Te) (h : BIn w (.slice b n c) bs ∧ rng bs) (hL : LIn w la ln ts) :
    Calls Try.prog 4 #[.slice b n c, .slice la ln lc] w fun e w' => e = .returned (.bool true) ∧ Below w.heap.size w w' := by
  obtain ⟨hb, hr⟩ := h
  have HL := WirS.hide hL
  have HBI := WirS.hide hb
  have HRG := WirS.hide hr
  have hbl : bs.length = n := by obtain ⟨_, _, e, _⟩ := hb; cases e; rfl
  clear hL hb hr
  by_cases hn : 600 < n
  · have g1 : (600 : Int) < (n : Int) := by omega
    have g1' : decide ((600 : Int) < (n : Int)) = true := by simpa using g1
    clear hn hbl
    go_enter Try.func4, Try.ntmps4
    go_wp2_with (go_at_call 17; refine (WirV.awake_any _).mono ?_; rintro e u ⟨rfl, hb⟩; have HB := WirS.hide hb; clear hb)
    go_ret
    exact ⟨rfl, HB.out⟩
  have g1 : ¬ (600 : Int) < (n : Int) := by omega
  have g1' : decide ((600 : Int) < (n : Int)) = false := by simpa using g1
  cases hlong : isLong ts with
  | true =>
    have HG := WirS.hide hlong
    clear hlong hn hbl
    go_enter Try.func4, Try.ntmps4
    go_wp2_with (first | (go_at_call 17; refine (WirV.awake_any _).mono ?_; rintro e u ⟨rfl, hb⟩; have HB := WirS.hide hb; clear hb) | (go_at_call 16; refine (show Calls _ _ _ _ (fun e w' => e = .returned (.bool true) ∧ w' = _) from HG.out ▸ long_any _ la ln lc ts HL.out).mono ?_; rintro e w2 ⟨rfl, he⟩; obtain rfl := he.symm))
    go_ret
    exact ⟨rfl, HB.out⟩
  | false =>
    have HG := WirS.hide hlong
    have HN := WirS.hide (show n ≤ 600 by omega)
    have hl30 : ln ≤ 30 := by have h1 := HL.out.len; have h2 := (long_no hlong).1; omega
    have HSM := WirS.hide (show bs.length ≤ 1099511627776 by omega)
    clear hlong hn hbl
    go_enter Try.func4, Try.ntmps4
    go_upto_region 4 with (first
      | (go_at_call 16; refine (show Calls _ _ _ _ (fun e w' => e = .returned (.bool false) ∧ w' = _) from HG.out ▸ long_any _ la ln lc ts HL.out).mono ?_; rintro e w2 ⟨rfl, he⟩; obtain rfl := he.symm)
      | (go_at_call 20; (refine (lent_any _ b n c bs HBI.out (by have := HN.out; omega)).mono ?_; rintro e u1 ⟨g, cL, rfl, hl, hg, hb⟩; have H1 := WirS.hide ((Bag.nil (Below.refl w.heap.size w)).new (o := lentT g n cL bs) hb hl (fun k hk => by subst hk; exact hg)); clear hl hg hb)))
    go_upto_region 5 with (first
      | (go_at_call 28; refine (WirT.newReader_any _ (some ⟨g, 0, none⟩) n cL bs H1.out.head.head HRG.out (by have := HN.out; omega)).mono ?_; rintro e u2 ⟨R, ra, rc, rfl, hR, hs, hnw, hb⟩; have H2 := WirS.hide (bag_rdS H1.out hR hs hnw hb); clear hR hs hnw hb H1)
      | (go_at_call 29; refine (newr_any _ b n c bs (HBI.out.below H2.out.low) (by have := HN.out; omega)).mono ?_; rintro e u3 ⟨X, xa, xc, rfl, hR, hs, hnw, hb⟩; have H3 := WirS.hide (bag_rfS H2.out hR hs hnw hb); clear hR hs hnw hb H2))
    have HP := WirS.hide (fun (U : World) (hU : Bag w U [rfS X xa xc bs (.inr 0), rdS R ra rc bs (.inr 0), lentT g n cL bs]) => kept_any U g n cL bs b c (WirAB.turn3 hU).head (HBI.out.below hU.low) (by have := HN.out; omega))
    have hpq : ∀ W, (binOp .eql 48 (.pointer (some ⟨R, 0, none⟩)) (.pointer none)).run Try.prog W = .ok (.bool false) W := fun W => by kernel_rfl
    go_upto_region 7 with (go_at_call 23; refine (HP.out _ H3.out).mono ?_; rintro e u4 ⟨rfl, hb⟩; have H4 := WirS.hide (WirAB.turn3 (H3.out.more hb)); clear hb H3)
    clear HP hpq
    go_upto_region 8 with (go_at_call 24; refine (KitB.over_any _ (some ⟨g, 0, none⟩) n cL bs H4.out.head.ownHead (by have := HN.out; omega)).mono ?_; rintro e u5 ⟨rfl, ⟨zs, _, ho⟩, hf⟩; have H5 := WirS.hide (H4.out.act (o' := own (.slice (some ⟨g, 0, none⟩) n cL) zs) (hf.mono fun k _ hx => by cases hx; rfl) ho (fun k hk => by cases hk; exact .inl rfl)).drop; clear ho hf H4)
    have HST := WirS.hide (show MidR w R X ra xa rc xc bs ln (.int .i64 0) u5 from ⟨0, .inr 0, Nat.zero_le _, rfl, H5.out⟩)
    clear H5
    go_wp2_with fail
    go_loopw [8] (fun i wr => MidR w R X ra xa rc xc bs ln i wr) (fun i _ => ln - (intOf i).toNat)
    case atStart => exact HST.out
    case round =>
      clear HST
      obtain ⟨k, s, hk, rfl, hbag⟩ := hrel
      have HBg := WirS.hide hbag
      clear hbag
      by_cases hlt : k < ln
      · obtain ⟨x, B, o, hx, hmem, rfl, hB, hr⟩ := (HL.out.below HBg.out.low).cell hlt
        have hkl : (k : Int) < (ln : Int) := by omega
        have HR := WirS.hide hr
        have HC := WirS.hide (reads_te w w wr [] R X ra xa rc xc bs s x (HL.out.wf x hmem).1 HSM.out HRG.out HBg.out)
        clear hr hx hmem hB
        go_upto_region 11 with fail
        refine wp_region_lit ?_
        refine sV (.pointer (some ⟨R, 0, none⟩)) (wr) (by kernel_rfl) (by kernel_rfl) ?_
        simp only [Act.put, List.setIfInBounds_toArray, List.set_cons_succ, List.set_cons_zero]
        refine sV (.pointer (some ⟨X, 0, none⟩)) (wr) (by kernel_rfl) (by kernel_rfl) ?_
        simp only [Act.put, List.setIfInBounds_toArray, List.set_cons_succ, List.set_cons_zero]
        refine sV (.slice (some ⟨B, o, none⟩) ln lc) (wr) (by kernel_rfl) (by kernel_rfl) ?_
        simp only [Act.put, List.setIfInBounds_toArray, List.set_cons_succ, List.set_cons_zero]
        refine sV (.int .i64 (k : Int)) (wr) (by kernel_rfl) (by kernel_rfl) ?_
        simp only [Act.put, List.setIfInBounds_toArray, List.set_cons_succ, List.set_cons_zero]
        refine sV (.pointer (some ⟨B, o + k * 41, none⟩)) wr (by kernel_rfl) (opX _ _ _ _ B o ln lc k rfl (by kernel_rfl) (by kernel_rfl) hlt wr) ?_
        simp only [Act.put, List.setIfInBounds_toArray, List.set_cons_succ, List.set_cons_zero]
        refine wpList_load_mid (by rfl) _ _ (by rfl) B (o + k * 41) (by kernel_rfl) x.t.cells _ HR.out Try.underlying39 (by rfl) (by rw [x.t.len]; kernel_rfl) ?_
        simp only [Act.put, List.setIfInBounds_toArray, List.set_cons_succ, List.set_cons_zero]
        refine sC (R := fun w' => ∃ s, Bag w w' [rdS R ra rc bs s, rfS X xa xc bs s]) (by kernel_rfl) (by kernel_rfl) HC.out ?_
        rintro u ⟨s', hb'⟩
        simp only [Act.put, List.setIfInBounds_toArray, List.set_cons_succ, List.set_cons_zero]
        have HB := WirS.hide hb'
        clear hb' HC HR HBg
        obtain ⟨z, hz⟩ : ∃ z, ValSG.restS bs s' = z := ⟨_, rfl⟩
        obtain ⟨fe, fa, he⟩ : ∃ fe fa, endS bs s' = (fe, fa) := ⟨_, _, rfl⟩
        have P1 := WirS.hide (fun U (hU : Bag w U [rdS R ra rc bs s', rfS X xa xc bs s']) => p_rest hU)
        have P2 := WirS.hide (fun U (hU : Bag w U [rfS X xa xc bs s', rdS R ra rc bs s']) => x_rest hU HSM.out)
        have P3 := WirS.hide (fun U (hU : Bag w U [rdS R ra rc bs s', rfS X xa xc bs s']) => s_end hU)
        have P4 := WirS.hide (fun U (hU : Bag w U [rfS X xa xc bs s', rdS R ra rc bs s']) => x_end hU)
        rw [hz] at P1 P2
        rw [he] at P3 P4
        have hq : (z == z) = true := by simp
        have hq2 : (z != z) = false := by simp
        have hne := fun U => WirBG.fault_neq fe fa fe fa U
        simp only [beq_self_eq_true, Bool.and_self, Bool.not_true] at hne
        clear hz he
        go_wp2_with (first
          | (go_at_call 31; refine (P1.out _ HB.out).mono ?_; rintro e v1 ⟨rfl, hb⟩; clear HB; have HB := WirS.hide hb.swap; clear hb)
          | (go_at_call 32; refine (P2.out _ HB.out).mono ?_; rintro e v2 ⟨rfl, hb⟩; clear HB; have HB := WirS.hide hb.swap; clear hb)
          | (go_at_call 33; refine (P3.out _ HB.out).mono ?_; rintro e v3 ⟨rfl, hb⟩; clear HB; have HB := WirS.hide hb.swap; clear hb)
          | (go_at_call 34; refine (P4.out _ HB.out).mono ?_; rintro e v4 ⟨rfl, hb⟩; clear HB; have HB := WirS.hide hb.swap; clear hb))
        go_roundw
        case rel => exact ⟨k + 1, s', by omega, by go_num, HB.out⟩
        case measure => simp [intOf]; omega
      · obtain rfl : k = ln := by omega
        obtain ⟨z, hz⟩ : ∃ z, ValSG.restS bs s = z := ⟨_, rfl⟩
        obtain ⟨fe, fa, he⟩ : ∃ fe fa, endS bs s = (fe, fa) := ⟨_, _, rfl⟩
        have P1 := WirS.hide (fun U (hU : Bag w U [rdS R ra rc bs s, rfS X xa xc bs s]) => p_rest hU)
        have P2 := WirS.hide (fun U (hU : Bag w U [rfS X xa xc bs s, rdS R ra rc bs s]) => x_rest hU HSM.out)
        have P3 := WirS.hide (fun U (hU : Bag w U [rdS R ra rc bs s, rfS X xa xc bs s]) => s_end hU)
        have P4 := WirS.hide (fun U (hU : Bag w U [rfS X xa xc bs s, rdS R ra rc bs s]) => x_end hU)
        rw [hz] at P1 P2
        rw [he] at P3 P4
        have hq : (z == z) = true := by simp
        have hne := fun U => WirX.fault_eq fe fa fe fa U
        simp only [beq_self_eq_true, Bool.and_self] at hne
        have HB := HBg
        clear hz he HBg
        go_wp2_with (first
          | (go_at_call 31; refine (P1.out _ HB.out).mono ?_; rintro e v1 ⟨rfl, hb⟩; clear HB; have HB := WirS.hide hb.swap; clear hb)
          | (go_at_call 32; refine (P2.out _ HB.out).mono ?_; rintro e v2 ⟨rfl, hb⟩; clear HB; have HB := WirS.hide hb.swap; clear hb)
          | (go_at_call 33; refine (P3.out _ HB.out).mono ?_; rintro e v3 ⟨rfl, hb⟩; clear HB; have HB := WirS.hide hb.swap; clear hb)
          | (go_at_call 34; refine (P4.out _ HB.out).mono ?_; rintro e v4 ⟨rfl, hb⟩; clear HB; have HB := WirS.hide hb.swap; clear hb)
          | (go_at_call 17; refine (WirV.awake_any _).mono ?_; rintro e u ⟨rfl, hb⟩; have HF := WirS.hide (Bag.low (HB.out.more hb)); clear hb HB))
        go_ret
        exact ⟨rfl, HF.out⟩
end ValSP
end Go.Proofs.Ythhnojnpjbklpaa

