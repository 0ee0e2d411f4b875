/-
  WirBB, WirBA, WirBC, WirBD, WirBF, WirBH, WirAC, WirBG, in one text.
-/
import Derived.Test.YthhnojnpjbklpaaPkL
import Derived.Deep.RegionHeld3
import Derived.Test.YthhnojnpjbklpaaPkG
namespace Go.Proofs.Ythhnojnpjbklpaa
namespace WirBB
open Go.RowKit PaceA FltC
open BlkM WirM WirS WirA WirB WirC WirD WirE WirF WirG WirH WirI WirJ WirK WirL WirN WirO WirP WirQ WirR WirT WirU WirV WirW WirX WirZ WirNA WirRT WirAA WirAB WirBE

/-- What a reading call leaves, by any rule Φ. -/
def Rk {α : Type} (w0 : World) (L : List Thg) (R : Nat) (a : Option Addr) (c : Nat) (bs : List Int) (f : α → Value) (Φ : α → Nat → Int → Int → Prop) (e : Ending) (w' : World) : Prop :=
  ∃ x p fe fa, e = .returned (f x) ∧ Bag w0 w' (rdr R a c bs p fe fa :: L) ∧ Φ x p fe fa
/-- Likewise of bytes. -/
def RkB (w0 : World) (L : List Thg) (R : Nat) (a : Option Addr) (c : Nat) (bs : List Int) (Φ : List Int → Nat → Int → Int → Prop) (e : Ending) (w' : World) : Prop :=
  ∃ va vn vc x p fe fa, e = .returned (.slice va vn vc) ∧ Bag w0 w' (own (.slice va vn vc) x :: rdr R a c bs p fe fa :: L) ∧ rng x ∧ Φ x p fe fa
/-- What 'back' leaves. -/
def Bk {α : Type} (w0 : World) (L : List Thg) (R : Nat) (a : Option Addr) (c : Nat) (bs : List Int) (g : α → Bool) (Φ : α → Nat → Int → Int → Prop) (e : Ending) (w' : World) : Prop :=
  ∃ x p fe fa, e = .returned (.bool (g x)) ∧ Bag w0 w' (rdr R a c bs p fe fa :: L) ∧ Φ x p fe fa
set_option maxHeartbeats 2000000 in
set_option maxRecDepth 10000 in
theorem back0 (w0 w : World) (l : List Thg) (R : Nat) (a : Option Addr) (c : Nat) (bs : List Int) (at' : Nat) (fe fa : Int) (t : Td) (Φ : Int → Nat → Int → Int → Prop) (hk : t.kd = 0)
    (C0 : ∀ U L, Bag w0 U (rdr R a c bs at' fe fa :: L) → Calls Try.prog 35 #[.pointer (some ⟨R, 0, none⟩)] U (Rk w0 L R a c bs (.int .i64) Φ))
    (h : Bag w0 w (rdr R a c bs at' fe fa :: l)) :
    Calls Try.prog 45 #[.pointer (some ⟨R, 0, none⟩), .agg t.cells.toArray] w (Bk w0 l R a c bs (fun x => x == t.n) Φ) := by
  obtain ⟨W0, e0⟩ : ∃ X, X = PW w t := ⟨_, rfl⟩
  have hA : At W0 w.heap.size 39 t.cells := by rw [e0]; exact PW_at _ _
  have hb0 : Bag w0 W0 (rdr R a c bs at' fe fa :: box 39 w.heap.size t.cells :: l) := by rw [e0]; exact (bag_box h rfl (PW_at _ _) (PW_below _ _)).swap
  have c0 : W0.cell? ⟨w.heap.size, 0, none⟩ = some (.int .i64 0) := by rw [hA.cell, ← hk]; rfl
  have c1 : W0.cell? ⟨w.heap.size, 1, none⟩ = some (.int .i64 t.n) := (hA.cell 1).trans (rfl)
  have C := WirS.hide C0
  have HB := WirS.hide hb0
  have E0 := WirS.hide e0
  clear hA hk C0 e0 hb0 h
  go_enter Try.func45, Try.ntmps45
  go_upto_region 1 with fail
  rw [show w.alloc (.cells t.cells.toArray 39) = W0 from E0.out.symm]
  generalize w.heap.size = X at *
  clear E0
  go_upto_region 3 with fail
  go_region_held3 (fun w' => w'.cell? ⟨X, 1, none⟩ = some (.int .i64 t.n)) (go_keep)
    (first | (go_at_call 35; refine (C.out _ _ (HB.out.more (below_drewN (Below.refl _ _) 1))).mono ?_; rintro e w1 ⟨x, p, fe', fa', rfl, hb, hc⟩; have c1' : w1.cell? ⟨X, 1, none⟩ = some (.int .i64 t.n) := (hb.swap.head.cell 1).trans (rfl); have HB1 := WirS.hide hb.swap.drop; have HC := WirS.hide hc; clear hb hc))
  go_wp2_with fail
  go_ret
  exact ⟨x, p, fe', fa', rfl, HB1.out, HC.out⟩
set_option maxHeartbeats 2000000 in
set_option maxRecDepth 10000 in
theorem back1 (w0 w : World) (l : List Thg) (R : Nat) (a : Option Addr) (c : Nat) (bs : List Int) (at' : Nat) (fe fa : Int) (t : Td) (Φ : List Int → Nat → Int → Int → Prop) (hk : t.kd = 1) (va : Option Addr) (vn vc : Nat) (hv : t.v = .slice va vn vc) (zs : List Int) (hz : BIn w0 (.slice va vn vc) zs)
    (C0 : ∀ U L, Bag w0 U (rdr R a c bs at' fe fa :: L) → Calls Try.prog 36 #[.pointer (some ⟨R, 0, none⟩), .int .i64 (vn : Int)] U (Rk w0 L R a c bs (fun zs => .string (st zs)) Φ))
    (h : Bag w0 w (rdr R a c bs at' fe fa :: l)) :
    Calls Try.prog 45 #[.pointer (some ⟨R, 0, none⟩), .agg t.cells.toArray] w (Bk w0 l R a c bs (fun x => (st x).toList == (st zs).toList) Φ) := by
  obtain ⟨W0, e0⟩ : ∃ X, X = PW w t := ⟨_, rfl⟩
  have hA : At W0 w.heap.size 39 t.cells := by rw [e0]; exact PW_at _ _
  have hb0 : Bag w0 W0 (rdr R a c bs at' fe fa :: box 39 w.heap.size t.cells :: l) := by rw [e0]; exact (bag_box h rfl (PW_at _ _) (PW_below _ _)).swap
  have c0 : W0.cell? ⟨w.heap.size, 0, none⟩ = some (.int .i64 1) := by rw [hA.cell, ← hk]; rfl
  have c1 : W0.cell? ⟨w.heap.size, 2, none⟩ = some (.slice va vn vc) := by rw [hA.cell, ← hv]; rfl
  have c2 := show t.cells[2]? = some (.slice va vn vc) by rw [← hv]; rfl
  have hcd : (convert 32 9 (.slice va vn vc)).run Try.prog W0.drew = .ok (.string (st zs)) W0.drew := conv_any _ va vn vc zs (hz.below (hb0.more (below_drewN (Below.refl _ _) 1)).low)
  have HZ := WirS.hide hz
  have C := WirS.hide C0
  have HB := WirS.hide hb0
  have E0 := WirS.hide e0
  clear hA hk C0 e0 hb0 h hv hz
  go_enter Try.func45, Try.ntmps45
  go_upto_region 1 with fail
  rw [show w.alloc (.cells t.cells.toArray 39) = W0 from E0.out.symm]
  generalize w.heap.size = X at *
  clear E0
  go_upto_region 5 with fail
  go_region_held3 (fun w' => w'.cell? ⟨X, 2, none⟩ = some (.slice va vn vc) ∧ (convert 32 9 (.slice va vn vc)).run Try.prog w' = .ok (.string (st zs)) w') (go_keep)
    (first | (go_at_call 36; refine (C.out _ _ (HB.out.more (below_drewN (Below.refl _ _) 1))).mono ?_; rintro e w1 ⟨x, p, fe', fa', rfl, hb, hc⟩; have c1' : w1.cell? ⟨X, 2, none⟩ = some (.slice va vn vc) := (hb.swap.head.cell 2).trans c2; have hcv1 := conv_any w1 va vn vc zs (HZ.out.below hb.low); have HB1 := WirS.hide hb.swap.drop; have HC := WirS.hide hc; clear hb hc))
  go_wp2_with fail
  go_ret
  exact ⟨x, p, fe', fa', rfl, HB1.out, HC.out⟩
set_option maxHeartbeats 2000000 in
set_option maxRecDepth 10000 in
theorem back2 (w0 w : World) (l : List Thg) (R : Nat) (a : Option Addr) (c : Nat) (bs : List Int) (at' : Nat) (fe fa : Int) (t : Td) (Φ : List Int → Nat → Int → Int → Prop) (hk : t.kd = 2) (va : Option Addr) (vn vc : Nat) (hv : t.v = .slice va vn vc) (zs : List Int) (hz : BIn w0 (.slice va vn vc) zs) (hrz : rng zs)
    (C0 : ∀ U L, Bag w0 U (rdr R a c bs at' fe fa :: L) → Calls Try.prog 37 #[.pointer (some ⟨R, 0, none⟩), .int .i64 (vn : Int)] U (RkB w0 L R a c bs Φ))
    (h : Bag w0 w (rdr R a c bs at' fe fa :: l)) :
    Calls Try.prog 45 #[.pointer (some ⟨R, 0, none⟩), .agg t.cells.toArray] w (Bk w0 l R a c bs (fun x => decide (x = zs)) Φ) := by
  obtain ⟨W0, e0⟩ : ∃ X, X = PW w t := ⟨_, rfl⟩
  have hA : At W0 w.heap.size 39 t.cells := by rw [e0]; exact PW_at _ _
  have hb0 : Bag w0 W0 (rdr R a c bs at' fe fa :: box 39 w.heap.size t.cells :: l) := by rw [e0]; exact (bag_box h rfl (PW_at _ _) (PW_below _ _)).swap
  have c0 : W0.cell? ⟨w.heap.size, 0, none⟩ = some (.int .i64 2) := by rw [hA.cell, ← hk]; rfl
  have c1 : W0.cell? ⟨w.heap.size, 2, none⟩ = some (.slice va vn vc) := by rw [hA.cell, ← hv]; rfl
  have c2 := show t.cells[2]? = some (.slice va vn vc) by rw [← hv]; rfl
  have HZ := WirS.hide hz
  have HRZ := WirS.hide hrz
  have C := WirS.hide C0
  have HB := WirS.hide hb0
  have E0 := WirS.hide e0
  clear hA hk C0 e0 hb0 h hv hz hrz
  go_enter Try.func45, Try.ntmps45
  go_upto_region 1 with fail
  rw [show w.alloc (.cells t.cells.toArray 39) = W0 from E0.out.symm]
  generalize w.heap.size = X at *
  clear E0
  go_upto_region 7 with fail
  go_region_held3 (fun w' => w'.cell? ⟨X, 2, none⟩ = some (.slice va vn vc)) (go_keep)
    (first | (go_at_call 37; refine (C.out _ _ (HB.out.more (below_drewN (Below.refl _ _) 1))).mono ?_; rintro e w1 ⟨ya, yn, yc, x, p, fe', fa', rfl, hb, hrx, hc⟩; have c1' : w1.cell? ⟨X, 2, none⟩ = some (.slice va vn vc) := ((turn3 hb).head.cell 2).trans c2; have HS := WirS.hide (same_any w1 ya va yn yc vn vc x zs (Own.bin hb.head) (HZ.out.below hb.low) hrx HRZ.out); have HB1 := WirS.hide hb.drop.swap.drop; have HC := WirS.hide hc; clear hb hc hrx) | (go_at_call 27; refine (HS.out).mono ?_; rintro e w2 ⟨rfl, rfl⟩))
  go_wp2_with fail
  go_ret
  exact ⟨x, p, fe', fa', rfl, HB1.out, HC.out⟩
set_option maxHeartbeats 2000000 in
set_option maxRecDepth 10000 in
theorem back3 (w0 w : World) (l : List Thg) (R : Nat) (a : Option Addr) (c : Nat) (bs : List Int) (at' : Nat) (fe fa : Int) (t : Td) (Φ : { l : List Int // l.length = 32 } → Nat → Int → Int → Prop) (hk : t.kd = 3)
    (C0 : ∀ U L, Bag w0 U (rdr R a c bs at' fe fa :: L) → Calls Try.prog 38 #[.pointer (some ⟨R, 0, none⟩)] U (Rk w0 L R a c bs (fun x => aggB x.1) Φ))
    (h : Bag w0 w (rdr R a c bs at' fe fa :: l)) :
    Calls Try.prog 45 #[.pointer (some ⟨R, 0, none⟩), .agg t.cells.toArray] w (Bk w0 l R a c bs (fun x => decide (x.1 = t.h)) Φ) := by
  obtain ⟨W0, e0⟩ : ∃ X, X = PW w t := ⟨_, rfl⟩
  have hA : At W0 w.heap.size 39 t.cells := by rw [e0]; exact PW_at _ _
  have hb0 : Bag w0 W0 (rdr R a c bs at' fe fa :: box 39 w.heap.size t.cells :: l) := by rw [e0]; exact (bag_box h rfl (PW_at _ _) (PW_below _ _)).swap
  have c0 : W0.cell? ⟨w.heap.size, 0, none⟩ = some (.int .i64 3) := by rw [hA.cell, ← hk]; rfl
  have c1 : W0.rangeAt w.heap.size 3 (b8 t.h) := rangeH hA
  have hu := Try.underlying34
  have hi : (Try.prog.info? 34).map (·.size) = some (b8 t.h).length := by rw [b8_len, t.lh]; kernel_rfl
  have hlen : (b8 t.h).length = 32 := by rw [b8_len, t.lh]
  have hone := one_b8 t.h
  have C := WirS.hide C0
  have HB := WirS.hide hb0
  have E0 := WirS.hide e0
  clear hA hk C0 e0 hb0 h
  go_enter Try.func45, Try.ntmps45
  go_upto_region 1 with fail
  rw [show w.alloc (.cells t.cells.toArray 39) = W0 from E0.out.symm]
  generalize w.heap.size = X at *
  clear E0
  have hq := eqH t.h t.lh
  go_upto_region 9 with fail
  go_region_held3 (fun w' => w'.rangeAt X 3 (b8 t.h)) (go_keep_ranges)
    (first | (go_at_call 38; refine (C.out _ _ (HB.out.more (below_drewN (Below.refl _ _) 1))).mono ?_; rintro e w1 ⟨x, p, fe', fa', rfl, hb, hc⟩; have c1' : w1.rangeAt X 3 (b8 t.h) := rangeH hb.swap.head; have hx := hq x.1 x.2; have hgd : ∀ W, (eqGuard .eql 34 (.tmp 40) (.tmp 42) (aggB x.1) (.agg (b8 t.h).toArray)).run Try.prog W = .ok () W := (fun W => by kernel_rfl); have HB1 := WirS.hide hb.swap.drop; have HC := WirS.hide hc; clear hb hc))
  go_wp2_with fail
  go_ret
  exact ⟨x, p, fe', fa', rfl, HB1.out, HC.out⟩
set_option maxHeartbeats 2000000 in
set_option maxRecDepth 10000 in
theorem back4 (w0 w : World) (l : List Thg) (R : Nat) (a : Option Addr) (c : Nat) (bs : List Int) (at' : Nat) (fe fa : Int) (t : Td) (Φ : { l : List Int // l.length = 4 } → Nat → Int → Int → Prop) (hk : t.kd = 4)
    (C0 : ∀ U L, Bag w0 U (rdr R a c bs at' fe fa :: L) → Calls Try.prog 39 #[.pointer (some ⟨R, 0, none⟩)] U (Rk w0 L R a c bs (fun x => aggB x.1) Φ))
    (h : Bag w0 w (rdr R a c bs at' fe fa :: l)) :
    Calls Try.prog 45 #[.pointer (some ⟨R, 0, none⟩), .agg t.cells.toArray] w (Bk w0 l R a c bs (fun x => decide (x.1 = t.k)) Φ) := by
  obtain ⟨W0, e0⟩ : ∃ X, X = PW w t := ⟨_, rfl⟩
  have hA : At W0 w.heap.size 39 t.cells := by rw [e0]; exact PW_at _ _
  have hb0 : Bag w0 W0 (rdr R a c bs at' fe fa :: box 39 w.heap.size t.cells :: l) := by rw [e0]; exact (bag_box h rfl (PW_at _ _) (PW_below _ _)).swap
  have c0 : W0.cell? ⟨w.heap.size, 0, none⟩ = some (.int .i64 4) := by rw [hA.cell, ← hk]; rfl
  obtain ⟨k0, ek0⟩ : ∃ k, k = t.k.getD 0 0 := ⟨_, rfl⟩
  have g0 : t.cells[35]? = some (.int .u8 k0) := by rw [ek0]; exact t.getK 0 (by decide)
  have q0 : W0.cell? ⟨w.heap.size, 35, none⟩ = some (.int .u8 k0) := (hA.cell 35).trans g0
  obtain ⟨k1, ek1⟩ : ∃ k, k = t.k.getD 1 0 := ⟨_, rfl⟩
  have g1 : t.cells[36]? = some (.int .u8 k1) := by rw [ek1]; exact t.getK 1 (by decide)
  have q1 : W0.cell? ⟨w.heap.size, 36, none⟩ = some (.int .u8 k1) := (hA.cell 36).trans g1
  obtain ⟨k2, ek2⟩ : ∃ k, k = t.k.getD 2 0 := ⟨_, rfl⟩
  have g2 : t.cells[37]? = some (.int .u8 k2) := by rw [ek2]; exact t.getK 2 (by decide)
  have q2 : W0.cell? ⟨w.heap.size, 37, none⟩ = some (.int .u8 k2) := (hA.cell 37).trans g2
  obtain ⟨k3, ek3⟩ : ∃ k, k = t.k.getD 3 0 := ⟨_, rfl⟩
  have g3 : t.cells[38]? = some (.int .u8 k3) := by rw [ek3]; exact t.getK 3 (by decide)
  have q3 : W0.cell? ⟨w.heap.size, 38, none⟩ = some (.int .u8 k3) := (hA.cell 38).trans g3
  have hq : ∀ x : List Int, x.length = 4 → ∀ W, (binOp .eql 36 (aggB x) (.agg #[.int .u8 k0, .int .u8 k1, .int .u8 k2, .int .u8 k3])).run Try.prog W = .ok (.bool (decide (x = t.k))) W := fun x lx W => by
    have h4 : t.k = [k0, k1, k2, k3] := by
      have hl := t.lk
      rw [ek0, ek1, ek2, ek3]
      match t.k, hl with
      | [_, _, _, _], _ => rfl
    have := eqK t.k t.lk x lx W
    rw [show (b8 t.k).toArray = #[.int .u8 k0, .int .u8 k1, .int .u8 k2, .int .u8 k3] by rw [h4]; rfl] at this
    exact this
  have C := WirS.hide C0
  have HB := WirS.hide hb0
  have E0 := WirS.hide e0
  clear hA hk C0 e0 hb0 h
  go_enter Try.func45, Try.ntmps45
  go_upto_region 1 with fail
  rw [show w.alloc (.cells t.cells.toArray 39) = W0 from E0.out.symm]
  generalize w.heap.size = X at *
  clear E0
  clear ek0 ek1 ek2 ek3
  go_upto_region 11 with fail
  go_region_held3 (fun w' => w'.cell? ⟨X, 35, none⟩ = some (.int .u8 k0) ∧ w'.cell? ⟨X, 36, none⟩ = some (.int .u8 k1) ∧ w'.cell? ⟨X, 37, none⟩ = some (.int .u8 k2) ∧ w'.cell? ⟨X, 38, none⟩ = some (.int .u8 k3)) (go_keep)
    (first | (go_at_call 39; refine (C.out _ _ (HB.out.more (below_drewN (Below.refl _ _) 1))).mono ?_; rintro e w1 ⟨x, p, fe', fa', rfl, hb, hc⟩; have r0 : w1.cell? ⟨X, 35, none⟩ = some (.int .u8 k0) := (hb.swap.head.cell 35).trans g0; have r1 : w1.cell? ⟨X, 36, none⟩ = some (.int .u8 k1) := (hb.swap.head.cell 36).trans g1; have r2 : w1.cell? ⟨X, 37, none⟩ = some (.int .u8 k2) := (hb.swap.head.cell 37).trans g2; have r3 : w1.cell? ⟨X, 38, none⟩ = some (.int .u8 k3) := (hb.swap.head.cell 38).trans g3; have hx := hq x.1 x.2; have hgd : ∀ W, (eqGuard .eql 36 (.tmp 47) (.tmp 49) (aggB x.1) (.agg #[.int .u8 k0, .int .u8 k1, .int .u8 k2, .int .u8 k3])).run Try.prog W = .ok () W := (fun W => by kernel_rfl); have HB1 := WirS.hide hb.swap.drop; have HC := WirS.hide hc; clear hb hc))
  go_wp2_with fail
  go_ret
  exact ⟨x, p, fe', fa', rfl, HB1.out, HC.out⟩
set_option maxHeartbeats 2000000 in
set_option maxRecDepth 10000 in
theorem back5 (w0 w : World) (l : List Thg) (R : Nat) (a : Option Addr) (c : Nat) (bs : List Int) (at' : Nat) (fe fa : Int) (t : Td) (Φ : Int → Nat → Int → Int → Prop) (hk : t.kd = 5)
    (C0 : ∀ U L, Bag w0 U (rdr R a c bs at' fe fa :: L) → Calls Try.prog 40 #[.pointer (some ⟨R, 0, none⟩)] U (Rk w0 L R a c bs (.int .u64) Φ))
    (h : Bag w0 w (rdr R a c bs at' fe fa :: l)) :
    Calls Try.prog 45 #[.pointer (some ⟨R, 0, none⟩), .agg t.cells.toArray] w (Bk w0 l R a c bs (fun x => x == t.u) Φ) := by
  obtain ⟨W0, e0⟩ : ∃ X, X = PW w t := ⟨_, rfl⟩
  have hA : At W0 w.heap.size 39 t.cells := by rw [e0]; exact PW_at _ _
  have hb0 : Bag w0 W0 (rdr R a c bs at' fe fa :: box 39 w.heap.size t.cells :: l) := by rw [e0]; exact (bag_box h rfl (PW_at _ _) (PW_below _ _)).swap
  have c0 : W0.cell? ⟨w.heap.size, 0, none⟩ = some (.int .i64 5) := by rw [hA.cell, ← hk]; rfl
  have c1 : W0.cell? ⟨w.heap.size, 39, none⟩ = some (.int .u64 t.u) := (hA.cell 39).trans (t.getU)
  have C := WirS.hide C0
  have HB := WirS.hide hb0
  have E0 := WirS.hide e0
  clear hA hk C0 e0 hb0 h
  go_enter Try.func45, Try.ntmps45
  go_upto_region 1 with fail
  rw [show w.alloc (.cells t.cells.toArray 39) = W0 from E0.out.symm]
  generalize w.heap.size = X at *
  clear E0
  go_upto_region 13 with fail
  go_region_held3 (fun w' => w'.cell? ⟨X, 39, none⟩ = some (.int .u64 t.u)) (go_keep)
    (first | (go_at_call 40; refine (C.out _ _ (HB.out.more (below_drewN (Below.refl _ _) 1))).mono ?_; rintro e w1 ⟨x, p, fe', fa', rfl, hb, hc⟩; have c1' : w1.cell? ⟨X, 39, none⟩ = some (.int .u64 t.u) := (hb.swap.head.cell 39).trans (t.getU); have HB1 := WirS.hide hb.swap.drop; have HC := WirS.hide hc; clear hb hc))
  go_wp2_with fail
  go_ret
  exact ⟨x, p, fe', fa', rfl, HB1.out, HC.out⟩
set_option maxHeartbeats 2000000 in
set_option maxRecDepth 10000 in
theorem back6 (w0 w : World) (l : List Thg) (R : Nat) (a : Option Addr) (c : Nat) (bs : List Int) (at' : Nat) (fe fa : Int) (t : Td) (Φ : Nat → Nat → Int → Int → Prop) (hk : t.kd = 6) (u : Nat) (hu : t.u = (u : Int))
    (C0 : ∀ U L, Bag w0 U (rdr R a c bs at' fe fa :: L) → Calls Try.prog 41 #[.pointer (some ⟨R, 0, none⟩)] U (Rk w0 L R a c bs (.float .f64) Φ))
    (h : Bag w0 w (rdr R a c bs at' fe fa :: l)) :
    Calls Try.prog 45 #[.pointer (some ⟨R, 0, none⟩), .agg t.cells.toArray] w (Bk w0 l R a c bs (fun x => (x == u) || (isN x && isN u)) Φ) := by
  obtain ⟨W0, e0⟩ : ∃ X, X = PW w t := ⟨_, rfl⟩
  have hA : At W0 w.heap.size 39 t.cells := by rw [e0]; exact PW_at _ _
  have hb0 : Bag w0 W0 (rdr R a c bs at' fe fa :: box 39 w.heap.size t.cells :: l) := by rw [e0]; exact (bag_box h rfl (PW_at _ _) (PW_below _ _)).swap
  have c0 : W0.cell? ⟨w.heap.size, 0, none⟩ = some (.int .i64 6) := by rw [hA.cell, ← hk]; rfl
  have c1 : W0.cell? ⟨w.heap.size, 39, none⟩ = some (.int .u64 (u : Int)) := by rw [hA.cell, ← hu]; exact t.getU
  have c2 := show t.cells[39]? = some (.int .u64 (u : Int)) by rw [← hu]; exact t.getU
  have hff := ffrom u
  have C := WirS.hide C0
  have HB := WirS.hide hb0
  have E0 := WirS.hide e0
  clear hA hk C0 e0 hb0 h hu
  go_enter Try.func45, Try.ntmps45
  go_upto_region 1 with fail
  rw [show w.alloc (.cells t.cells.toArray 39) = W0 from E0.out.symm]
  generalize w.heap.size = X at *
  clear E0
  go_upto_region 15 with fail
  go_region_held3 (fun w' => w'.cell? ⟨X, 39, none⟩ = some (.int .u64 (u : Int))) (go_keep)
    (first | (go_at_call 41; refine (C.out _ _ (HB.out.more (below_drewN (Below.refl _ _) 1))).mono ?_; rintro e w1 ⟨x, p, fe', fa', rfl, hb, hc⟩; have c1' : w1.cell? ⟨X, 39, none⟩ = some (.int .u64 (u : Int)) := (hb.swap.head.cell 39).trans c2; have HB1 := WirS.hide hb.swap.drop; have HC := WirS.hide hc; clear hb hc))
  have hfb := fbits x
  have n1 := neq_self x
  have n2 := neq_self u
  go_upto_region 16 with fail
  by_cases hxu : x = u
  · have hd : ((x : Int) == (u : Int)) = true := by simp [hxu]
    have hd2 : (x == u) = true := by simp [hxu]
    have HG := WirS.hide (show ((x == u) || (isN x && isN u)) = true by simp [hxu])
    clear hxu
    go_quiet (fail)
    go_wp2_with fail
    go_ret
    exact ⟨x, p, fe', fa', (by show _ = Ending.returned (.bool ((x == u) || (isN x && isN u))); rw [HG.out]; rfl), HB1.out.more (below_drewN (Below.refl _ _) nq), HC.out⟩
  have hd : ((x : Int) == (u : Int)) = false := by simp; omega
  have hd2 : (x == u) = false := by simpa using hxu
  clear hxu
  cases hnx : isN x with
  | false =>
    rw [hnx] at n1
    have HG := WirS.hide (show ((x == u) || (isN x && isN u)) = false by rw [hd2, hnx]; rfl)
    clear hnx
    go_quiet (fail)
    go_wp2_with fail
    go_ret
    exact ⟨x, p, fe', fa', (by show _ = Ending.returned (.bool ((x == u) || (isN x && isN u))); rw [HG.out]; rfl), HB1.out.more (below_drewN (Below.refl _ _) nq), HC.out⟩
  | true =>
    rw [hnx] at n1
    cases hnu : isN u with
    | false =>
      rw [hnu] at n2
      have HG := WirS.hide (show ((x == u) || (isN x && isN u)) = false by rw [hd2, hnx, hnu]; rfl)
      clear hnx hnu
      go_quiet (fail)
      go_wp2_with fail
      go_ret
      exact ⟨x, p, fe', fa', (by show _ = Ending.returned (.bool ((x == u) || (isN x && isN u))); rw [HG.out]; rfl), HB1.out.more (below_drewN (Below.refl _ _) nq), HC.out⟩
    | true =>
      rw [hnu] at n2
      have HG := WirS.hide (show ((x == u) || (isN x && isN u)) = true by rw [hd2, hnx, hnu]; rfl)
      clear hnx hnu
      go_quiet (fail)
      go_wp2_with fail
      go_ret
      exact ⟨x, p, fe', fa', (by show _ = Ending.returned (.bool ((x == u) || (isN x && isN u))); rw [HG.out]; rfl), HB1.out.more (below_drewN (Below.refl _ _) nq), HC.out⟩
set_option maxHeartbeats 2000000 in
set_option maxRecDepth 10000 in
theorem back7 (w0 w : World) (l : List Thg) (R : Nat) (a : Option Addr) (c : Nat) (bs : List Int) (at' : Nat) (fe fa : Int) (t : Td) (Φ : Bool → Nat → Int → Int → Prop) (hk : t.kd = 7)
    (C0 : ∀ U L, Bag w0 U (rdr R a c bs at' fe fa :: L) → Calls Try.prog 42 #[.pointer (some ⟨R, 0, none⟩)] U (Rk w0 L R a c bs (.bool) Φ))
    (h : Bag w0 w (rdr R a c bs at' fe fa :: l)) :
    Calls Try.prog 45 #[.pointer (some ⟨R, 0, none⟩), .agg t.cells.toArray] w (Bk w0 l R a c bs (fun x => x == t.is) Φ) := by
  obtain ⟨W0, e0⟩ : ∃ X, X = PW w t := ⟨_, rfl⟩
  have hA : At W0 w.heap.size 39 t.cells := by rw [e0]; exact PW_at _ _
  have hb0 : Bag w0 W0 (rdr R a c bs at' fe fa :: box 39 w.heap.size t.cells :: l) := by rw [e0]; exact (bag_box h rfl (PW_at _ _) (PW_below _ _)).swap
  have c0 : W0.cell? ⟨w.heap.size, 0, none⟩ = some (.int .i64 7) := by rw [hA.cell, ← hk]; rfl
  have c1 : W0.cell? ⟨w.heap.size, 40, none⟩ = some (.bool t.is) := (hA.cell 40).trans (t.getIs)
  have C := WirS.hide C0
  have HB := WirS.hide hb0
  have E0 := WirS.hide e0
  clear hA hk C0 e0 hb0 h
  go_enter Try.func45, Try.ntmps45
  go_upto_region 1 with fail
  rw [show w.alloc (.cells t.cells.toArray 39) = W0 from E0.out.symm]
  generalize w.heap.size = X at *
  clear E0
  go_upto_region 18 with fail
  go_region_held3 (fun w' => w'.cell? ⟨X, 40, none⟩ = some (.bool t.is)) (go_keep)
    (first | (go_at_call 42; refine (C.out _ _ (HB.out.more (below_drewN (Below.refl _ _) 1))).mono ?_; rintro e w1 ⟨x, p, fe', fa', rfl, hb, hc⟩; have c1' : w1.cell? ⟨X, 40, none⟩ = some (.bool t.is) := (hb.swap.head.cell 40).trans (t.getIs); have HB1 := WirS.hide hb.swap.drop; have HC := WirS.hide hc; clear hb hc))
  go_wp2_with fail
  go_ret
  exact ⟨x, p, fe', fa', rfl, HB1.out, HC.out⟩
end WirBB
end Go.Proofs.Ythhnojnpjbklpaa

namespace Go.Proofs.Ythhnojnpjbklpaa
namespace WirBA
open Go.RowKit PaceA FltC Go.WideShapes Go.ChangeShapes
open BlkM WirM WirS WirA WirB WirC WirD WirE WirF WirG WirH WirI WirJ WirK WirL WirN WirO WirP WirQ WirR WirT WirU WirV WirW WirX WirZ WirNA WirO1 WirRT

/-- A thing, its bytes, and where they lie. -/
structure Te where
  t : Td
  va : Option Addr
  vn : Nat
  vc : Nat
  zs : List Int
/-- A list of things, as it comes in. -/
structure LIn (w : World) (la : Option Addr) (ln : Nat) (ts : List Te) : Prop where
  len : ts.length = ln
  small : ln ≤ 9223372036854775807
  row : 0 < ln → ∃ B o, la = some ⟨B, o, none⟩ ∧ B < w.heap.size ∧ ∀ (i : Nat) (x : Te), ts[i]? = some x → w.rangeAt B (o + i * 41) x.t.cells
  wf : ∀ x ∈ ts, Wf w x.t x.va x.vn x.vc x.zs ∧ rng x.t.h ∧ rng x.t.k
theorem list_of {α : Type} {P : Nat → α → Prop} : ∀ n, (∀ i, i < n → ∃ x, P i x) → ∃ l : List α, l.length = n ∧ ∀ i x, l[i]? = some x → P i x
  | 0, _ => ⟨[], rfl, fun i x h => by simp at h⟩
  | n + 1, h => by
    obtain ⟨l, hl, hp⟩ := list_of n (fun i hi => h i (by omega))
    obtain ⟨x, hx⟩ := h n (by omega)
    refine ⟨l ++ [x], by simp [hl], fun i y hy => ?_⟩
    rcases Nat.lt_or_ge i n with hi | hi
    · rw [List.getElem?_append_left (by omega)] at hy
      exact hp i y hy
    · rw [List.getElem?_append_right (by omega), hl] at hy
      obtain rfl : i = n := by
        have := (List.getElem?_eq_some_iff.1 hy).1
        simp at this
        omega
      simp at hy
      subst hy
      exact hx
theorem LIn.below {w w' : World} {la : Option Addr} {ln : Nat} {ts : List Te} (h : LIn w la ln ts) (hb : Below w.heap.size w w') : LIn w' la ln ts := by
  refine ⟨h.len, h.small, fun hp => ?_, fun x hx => ⟨(h.wf x hx).1.more hb (Below.refl _ _), (h.wf x hx).2⟩⟩
  obtain ⟨B, o, e, hB, hr⟩ := h.row hp
  exact ⟨B, o, e, Nat.lt_of_lt_of_le hB hb.size, fun i x hx j v hj => (hb.cell (p := ⟨B, _, none⟩) hB).trans (hr i x hx j v hj)⟩
theorem add_two (a : Addr) (n m : Nat) : a.add (n + m) = (a.add n).add m := by
  unfold Addr.add
  by_cases h1 : n = 0
  · subst h1
    simp
  · by_cases h2 : m = 0
    · subst h2
      simp
    · have h3 : ¬ n + m = 0 := by omega
      simp [h1, h2, Nat.add_assoc]
theorem things_in {H : Type} {enc : TypeId × Value → H} {W : World} {fuel : Nat} {cs : List Value} {x : DataW H × List MemPlace} (h : DataW.trod enc Try.prog W 0 (fun _ => true) true fuel 22 cs = some x) :
    ∃ la ln lc ts, cs = [.slice la ln lc] ∧ LIn W la ln ts := by
  rcases DataW.trod_slice Try.underlying22 h with ⟨hcs, _⟩ | ⟨a, len, cap, elems, rest, n, _, hcs, _, _, hl, hm, hlen, hel, _, _⟩
  · exact ⟨none, 0, 0, [], hcs, ⟨rfl, by decide, fun h => absurd h (by decide), fun x h => by cases h⟩⟩
  · have cT : Try.prog.cellsOf 39 = 41 := by kernel_rfl
    rw [cT] at hel
    have each : ∀ i, i < len → ∃ x : Te, (∀ j v, x.t.cells[j]? = some v → W.cell? (a.add (i * 41 + j)) = some v) ∧ Wf W x.t x.va x.vn x.vc x.zs ∧ rng x.t.h ∧ rng x.t.k := by
      intro i hi
      have h1 := hel i hi
      rw [List.getElem?_eq_getElem (show i < elems.length by omega), Option.bind_eq_some_iff] at h1
      obtain ⟨cs', hc, ht⟩ := h1
      obtain ⟨_, hcl, hat⟩ := World.cells?_some hc
      obtain ⟨t, va, vn, vc, zs, rfl, hw⟩ := t_open ht
      refine ⟨⟨t, va, vn, vc, zs⟩, fun j v hj => ?_, hw⟩
      have hj2 : j < 41 := by
        have := (List.getElem?_eq_some_iff.1 hj).1
        rwa [t.len] at this
      rw [add_two a, hat j hj2]
      exact hj
    obtain ⟨ts, hts, hp⟩ := list_of len each
    refine ⟨some a, len, cap, ts, hcs, ⟨hts, by unfold maxLen at hm; omega, fun hpos => ?_, fun x hx => ?_⟩⟩
    · obtain ⟨b, off, spot⟩ := a
      obtain ⟨x0, hx0⟩ : ∃ x0, ts[0]? = some x0 := ⟨_, List.getElem?_eq_getElem (by omega)⟩
      have h0 := (hp 0 x0 hx0).1 0 _ (List.getElem?_eq_getElem (by rw [x0.t.len]; decide))
      have hspot : spot = none := by simpa [Addr.add] using World.cell?_spot h0
      subst hspot
      refine ⟨b, off, rfl, ?_, fun i x hx j v hj => ?_⟩
      · rw [Go.WideShapes.add_plain] at h0
        unfold World.cell? at h0
        rcases Nat.lt_or_ge b W.heap.size with h | h
        · exact h
        · have : W.heap[b]? = none := by simp [h]
          simp [this] at h0
      · have h2 := (hp i x hx).1 j v hj
        rw [Go.WideShapes.add_plain] at h2
        rw [Nat.add_assoc]
        exact h2
    · obtain ⟨i, hi, rfl⟩ := List.getElem_of_mem hx
      exact (hp i _ (List.getElem?_eq_getElem hi)).2
/-- More than are gone through? -/
def isLong (ts : List Te) : Bool := (ts.take 31).any (fun x => decide (300 < x.vn)) || decide (30 < ts.length)
theorem long_no {ts : List Te} (h : isLong ts = false) : ts.length ≤ 30 ∧ ∀ x ∈ ts, x.vn ≤ 300 := by
  simp only [isLong, Bool.or_eq_false_iff, List.any_eq_false, decide_eq_true_eq, decide_eq_false_iff_not] at h
  refine ⟨by omega, fun x hx => ?_⟩
  have := h.1 x (by rw [List.take_of_length_le (by omega)]; exact hx)
  omega
theorem LIn.cell {w : World} {la : Option Addr} {ln : Nat} {ts : List Te} (h : LIn w la ln ts) {i : Nat} (hi : i < ln) : ∃ (x : Te) (B o : Nat), ts[i]? = some x ∧ x ∈ ts ∧ la = some ⟨B, o, none⟩ ∧ B < w.heap.size ∧ w.rangeAt B (o + i * 41) x.t.cells := by
  obtain ⟨B, o, e, hB, hr⟩ := h.row (by omega)
  have hx : ts[i]? = some (ts[i]'(by rw [h.len]; exact hi)) := List.getElem?_eq_getElem _
  exact ⟨_, B, o, hx, List.getElem_mem _, e, hB, hr i _ hx⟩
theorem any_upto {α : Type} (p : α → Bool) (l : List α) (k : Nat) (x : α) (h : l[k]? = some x) : (l.take (k + 1)).any p = ((l.take k).any p || p x) := by
  rw [List.take_add_one, h]
  simp
def MidL (w : World) (ts : List Te) (ln : Nat) (i : Value) (U : World) : Prop := ∃ k : Nat, k ≤ ln ∧ k ≤ 31 ∧ i = .int .i64 (k : Int) ∧ (ts.take k).any (fun x => decide (300 < x.vn)) = false ∧ U = w
set_option maxHeartbeats 1000000 in
theorem long_any (w : World) (la : Option Addr) (ln lc : Nat) (ts : List Te) (h : LIn w la ln ts) :
    Calls Try.prog 16 #[.slice la ln lc] w fun e w' => e = .returned (.bool (isLong ts)) ∧ w' = w := by
  have hs := h.small
  have HL := WirS.hide h
  clear h
  go_enter Try.func16, Try.ntmps16
  go_wp2_with fail
  go_loopw [3] (fun i wr => MidL w ts ln i wr) (fun i _ => 31 - (intOf i).toNat)
  case atStart => exact ⟨0, Nat.zero_le _, by decide, rfl, by simp, rfl⟩
  case round =>
    obtain ⟨k, hk, hk31, rfl, ha, rfl⟩ := hrel
    by_cases hlt : k < ln
    · by_cases h31 : k < 31
      · obtain ⟨x, B, o, hx, hmem, rfl, hB, hr⟩ := HL.out.cell hlt
        have hv := (HL.out.wf x hmem).1.hv
        have c2 : wr.cell? ⟨B, o + k * 41 + 2, none⟩ = some (.slice x.va x.vn x.vc) := hr 2 _ (by rw [← hv]; rfl)
        have hkl : (k : Int) < (ln : Int) := by omega
        have hk3 : (k : Int) < 31 := by omega
        have hu := any_upto (fun x : Te => decide (300 < x.vn)) ts k x hx
        rw [ha, Bool.false_or] at hu
        clear hr hv
        by_cases h3 : 300 < x.vn
        · have h3' : (300 : Int) < (x.vn : Int) := by omega
          have hres : isLong ts = true := by
            simp only [isLong, Bool.or_eq_true]
            refine .inl ?_
            have h5 : (ts.take (k + 1)).any (fun x : Te => decide (300 < x.vn)) = true := by rw [hu]; simpa using h3
            rw [List.any_eq_true] at h5 ⊢
            obtain ⟨y, hy, hp⟩ := h5
            exact ⟨y, (List.take_subset_take_left ts (by omega)) hy, hp⟩
          have HRs := WirS.hide hres
          clear hu h3 ha hres
          go_wp2_with fail
          go_ret
          exact ⟨by rw [HRs.out]; rfl, rfl⟩
        · have h3' : ¬ (300 : Int) < (x.vn : Int) := by omega
          have hu2 : (ts.take (k + 1)).any (fun x : Te => decide (300 < x.vn)) = false := by rw [hu]; simpa using h3
          have HU := WirS.hide hu2
          clear hu h3 ha hu2
          go_wp2_with fail
          go_roundw
          case rel => exact ⟨k + 1, by omega, by omega, by go_num, HU.out, rfl⟩
          case measure => simp [intOf]; omega
      · obtain rfl : k = 31 := by omega
        have hres : isLong ts = true := by
          simp only [isLong, Bool.or_eq_true, decide_eq_true_eq]
          exact .inr (by rw [HL.out.len]; omega)
        have h30 : (30 : Int) < (ln : Int) := by omega
        have h31l : (31 : Int) < (ln : Int) := by omega
        have HRs := WirS.hide hres
        clear ha hres
        go_wp2_with fail
        go_ret
        exact ⟨by rw [HRs.out]; rfl, rfl⟩
    · obtain rfl : k = ln := by omega
      have hres : isLong ts = decide ((30 : Int) < (k : Int)) := by
        have hl := HL.out.len
        simp only [isLong]
        rw [List.take_of_length_le (by omega)] at ha ⊢
        rw [ha, hl]
        simp
        omega
      have HRs := WirS.hide hres
      clear ha hres
      go_wp2_with fail
      go_ret
      exact ⟨by rw [HRs.out]; rfl, rfl⟩
end WirBA
end Go.Proofs.Ythhnojnpjbklpaa

namespace Go.Proofs.Ythhnojnpjbklpaa
namespace WirBC
open Go.RowKit PaceA FltC
open BlkM WirM WirS WirA WirB WirC WirD WirE WirF WirG WirH WirI WirJ WirK WirL WirN WirO WirP WirQ WirR WirT WirU WirV WirW WirX WirZ WirNA WirRT

theorem bl_up (n : Nat) : ∀ x, x ≤ n → x < 2 ^ 64 → x < 2 ^ Lib.bitLen x := by
  induction n with
  | zero => intro x hx _; obtain rfl : x = 0 := by omega
            decide
  | succ n ih =>
    intro x hx h
    by_cases h0 : x = 0
    · subst h0; decide
    · have := ih (x / 2) (by omega) (by omega)
      rw [Lib.bitLen_half x h0 h, Nat.pow_add]
      omega
theorem bl_low (n : Nat) : ∀ x, x ≤ n → x ≠ 0 → x < 2 ^ 64 → 2 ^ (Lib.bitLen x - 1) ≤ x := by
  induction n with
  | zero => intro x hx h0; omega
  | succ n ih =>
    intro x hx h0 h
    rw [Lib.bitLen_half x h0 h, Nat.add_sub_cancel_left]
    by_cases h1 : x / 2 = 0
    · rw [h1, show Lib.bitLen 0 = 0 by decide]
      omega
    · have := ih (x / 2) (by omega) h1 (by omega)
      have h2 := bl_pos (x / 2) h1 (by omega)
      rw [show Lib.bitLen (x / 2) = (Lib.bitLen (x / 2) - 1) + 1 by omega, Nat.pow_succ]
      omega
theorem vL_dg : ∀ (k : Nat) (n : Int), 0 ≤ n → n < 256 ^ k → vL (dg n k) = n
  | 0, n, h0, h1 => by
    have : n = 0 := by simp at h1; omega
    subst this
    rfl
  | k + 1, n, h0, h1 => by
    rw [Int.pow_succ] at h1
    rw [dg_snoc, vL_snoc, vL_dg k (n / 256) (by omega) (Int.ediv_lt_of_lt_mul (by decide) h1)]
    omega
theorem nb_up (n : Int) (h0 : 0 ≤ n) (h1 : n < 18446744073709551616) : n < 256 ^ nb n := by
  obtain ⟨x, rfl⟩ := Int.eq_ofNat_of_zero_le h0
  have h := bl_up x x (Nat.le_refl _) (by omega)
  have h2 : x < 256 ^ nb (x : Int) := by
    refine Nat.lt_of_lt_of_le h ?_
    rw [show 256 = 2 ^ 8 from rfl, ← Nat.pow_mul]
    refine Nat.pow_le_pow_right (by decide) ?_
    unfold nb
    rw [Int.toNat_natCast]
    omega
  have := Int.ofNat_lt.2 h2
  rwa [Int.natCast_pow] at this
theorem dg_head (n : Int) (h0 : 0 ≤ n) (h1 : n < 18446744073709551616) (hne : dg n (nb n) ≠ []) : (dg n (nb n)).getD 0 0 ≠ 0 := by
  obtain ⟨x, rfl⟩ := Int.eq_ofNat_of_zero_le h0
  obtain ⟨k, hk⟩ : ∃ k, nb (x : Int) = k + 1 := by
    cases h : nb (x : Int) with
    | zero => rw [h] at hne; exact absurd rfl hne
    | succ k => exact ⟨k, rfl⟩
  have hx : x ≠ 0 := by
    intro e
    subst e
    have : nb ((0 : Nat) : Int) = 0 := by decide
    omega
  have hup := nb_up (x : Int) (by omega) h1
  have hlow := bl_low x x (Nat.le_refl _) hx (by omega)
  have hp := bl_pos x hx (by omega)
  have hL : 8 * k ≤ Lib.bitLen x - 1 := by
    unfold nb at hk
    rw [Int.toNat_natCast] at hk
    omega
  have h2 : 2 ^ (8 * k) ≤ x := Nat.le_trans (Nat.pow_le_pow_right (by decide) hL) hlow
  rw [hk] at hup ⊢
  have hup2 : x < 2 ^ (8 * k) * 256 := by
    have : x < 256 ^ (k + 1) := Int.ofNat_lt.1 (by rw [Int.natCast_pow]; exact hup)
    rw [Nat.pow_mul]
    rwa [Nat.pow_succ] at this
  have hq : x / 2 ^ (8 * k) < 256 := Nat.div_lt_of_lt_mul hup2
  have hq0 : 1 ≤ x / 2 ^ (8 * k) := (Nat.le_div_iff_mul_le (Nat.pow_pos (by decide))).2 (by omega)
  show (x : Int) / 2 ^ (8 * k) % 256 ≠ 0
  have e : (x : Int) / 2 ^ (8 * k) = ((x / 2 ^ (8 * k) : Nat) : Int) := by
    rw [Int.natCast_ediv, Int.natCast_pow]
    rfl
  rw [e]
  omega
theorem numB_dg (n : Int) (h1 : n < 18446744073709551616) : numB n = (nb n : Int) :: dg n (nb n) := by
  unfold numB
  rw [cp_full _ _ (nb_le n h1)]
/-- What lies between two places. -/
theorem fits_mid {bs : List Int} {at' p : Nat} {news : List Int} (h : Fits bs at' p news) : p = at' + news.length ∧ (bs.drop at').take news.length = news := by
  obtain ⟨h1, h2, h3⟩ := h
  have hl := congrArg List.length h3
  simp only [List.length_append, List.length_take] at hl
  have hp : p = at' + news.length := by omega
  refine ⟨hp, ?_⟩
  rw [hp, List.take_add] at h3
  exact (List.append_cancel_left h3).symm
theorem fits_cut {bs : List Int} {at' p cut : Nat} {news : List Int} (h : Fits bs at' p news) (hp : p ≤ cut) (hc : cut ≤ bs.length) : Fits (bs.take cut) at' p news := by
  obtain ⟨h1, h2, h3⟩ := h
  refine ⟨h1, by rw [List.length_take]; omega, ?_⟩
  rw [List.take_take, List.take_take, Nat.min_eq_left hp, Nat.min_eq_left (by omega)]
  exact h3
theorem num_oc {bs : List Int} {at' p cut : Nat} {n : Int} (h0 : 0 ≤ n) (h1 : n < 9223372036854775808) (h : Fits bs at' p (numB n)) (hc : cut ≤ bs.length) :
    (p ≤ cut → numO (bs.take cut) at' = .inr (n, p)) ∧ (cut < p → numO (bs.take cut) at' = .inl 6) := by
  have h8 := nb_le n (by omega)
  obtain ⟨hp, hm⟩ := fits_mid h
  rw [numB_dg n (by omega)] at hp hm
  rw [List.length_cons, dg_len] at hp hm
  have hlc : (bs.take cut).length = cut := by rw [List.length_take]; omega
  have hb : at' < bs.length := by have := h.2.1; omega
  rw [List.drop_eq_getElem_cons hb, List.take_succ_cons, List.cons.injEq] at hm
  obtain ⟨hd, hr⟩ := hm
  have hget : at' < cut → (bs.take cut).getD at' 0 = (nb n : Int) := fun hlt => by
    rw [List.getD_eq_getElem?_getD, List.getElem?_take, if_pos hlt, List.getElem?_eq_getElem hb, hd]
    rfl
  constructor
  · intro hpc
    have hg := hget (by omega)
    have hmid : ((bs.take cut).drop (at' + 1)).take (nb n) = dg n (nb n) := by
      rw [List.drop_take, List.take_take, Nat.min_eq_left (by omega)]
      exact hr
    unfold numO
    rw [hlc, if_neg (by omega), hg, if_neg (by omega), Int.toNat_natCast, if_neg (by omega), hmid]
    have hv := vL_dg (nb n) n h0 (nb_up n h0 (by omega))
    rw [if_neg (by
      rintro (⟨h5, h6⟩ | h6)
      · exact dg_head n h0 (by omega) h5 h6
      · rw [hv] at h6; omega), hv]
    rw [show at' + 1 + nb n = p by omega]
  · intro hcp
    unfold numO
    rw [hlc]
    by_cases h2 : cut < at' + 1
    · rw [if_pos h2]
    · rw [if_neg h2, hget (by omega), if_neg (by omega), Int.toNat_natCast, if_pos (by omega)]
theorem row_oc {bs : List Int} {at' p cut n : Nat} {l : List Int} (hn : l.length = n) (h : Fits bs at' p l) (hc : cut ≤ bs.length) : (p ≤ cut → rowO n (bs.take cut) at' = .inr (l, p)) ∧ (cut < p → rowO n (bs.take cut) at' = .inl 6) := by
  obtain ⟨hp, hm⟩ := fits_mid h
  rw [hn] at hp hm
  have hlc : (bs.take cut).length = cut := by rw [List.length_take]; omega
  constructor
  · intro hpc
    unfold rowO
    rw [hlc, if_neg (by omega), List.drop_take, List.take_take, Nat.min_eq_left (by omega), hm, hp]
  · intro hcp
    unfold rowO
    rw [hlc, if_pos (by omega)]
theorem word_oc {bs : List Int} {at' p cut : Nat} {n : Int} (h0 : 0 ≤ n) (h1 : n < 18446744073709551616) (h : Fits bs at' p (wordB n)) (hc : cut ≤ bs.length) : (p ≤ cut → wordO (bs.take cut) at' = .inr (n, p)) ∧ (cut < p → wordO (bs.take cut) at' = .inl 6) := by
  have hr := row_oc (wordB_len n) h hc
  have hv : vL (wordB n) = n := by rw [wordB_dg]; exact vL_dg 8 n h0 (by omega)
  unfold rowO at hr
  unfold wordO
  by_cases h2 : (bs.take cut).length < at' + 8
  · rw [if_pos h2] at hr ⊢
    exact ⟨(fun h => by cases hr.1 h), fun _ => rfl⟩
  · rw [if_neg h2] at hr ⊢
    refine ⟨fun h => ?_, fun h => by cases hr.2 h⟩
    have := hr.1 h
    simp only [Sum.inr.injEq, Prod.mk.injEq] at this ⊢
    rw [this.1]
    exact ⟨hv, this.2⟩
theorem pace_oc {bs : List Int} {at' p cut x : Nat} (hx : x < 18446744073709551616) (hcn : canon x = x) (h : Fits bs at' p (wordB (x : Int))) (hc : cut ≤ bs.length) : (p ≤ cut → paceO (bs.take cut) at' = .inr (x, p)) ∧ (cut < p → paceO (bs.take cut) at' = .inl 6) := by
  have hw := word_oc (by omega) (by omega) h hc
  unfold wordO at hw
  unfold paceO
  by_cases h2 : (bs.take cut).length < at' + 8
  · rw [if_pos h2] at hw ⊢
    exact ⟨(fun h => by cases hw.1 h), fun _ => rfl⟩
  · rw [if_neg h2] at hw ⊢
    refine ⟨fun h => ?_, fun h => by cases hw.2 h⟩
    have := hw.1 h
    simp only [Sum.inr.injEq, Prod.mk.injEq] at this
    rw [this.1, Int.toNat_natCast, if_pos hcn, this.2]
theorem bool_oc {bs : List Int} {at' p cut : Nat} {b : Bool} (h : Fits bs at' p (boolB b)) (hc : cut ≤ bs.length) : (p ≤ cut → boolO (bs.take cut) at' = .inr (b, p)) ∧ (cut < p → boolO (bs.take cut) at' = .inl 6) := by
  obtain ⟨hp, hm⟩ := fits_mid h
  have hlc : (bs.take cut).length = cut := by rw [List.length_take]; omega
  have h1 : (boolB b).length = 1 := rfl
  rw [h1] at hp hm
  constructor
  · intro hpc
    have ho := one_at bs at' (by have := h.2.1; omega)
    rw [ho] at hm
    have hg : (bs.take cut).getD at' 0 = bs.getD at' 0 := by
      rw [List.getD_eq_getElem?_getD, List.getElem?_take, if_pos (by omega), List.getD_eq_getElem?_getD]
    have hb : bs.getD at' 0 = if b then 1 else 0 := by
      unfold boolB at hm
      exact List.head_eq_of_cons_eq hm
    unfold boolO
    rw [hlc, if_neg (by omega), hg, hb, hp]
    cases b <;> rfl
  · intro hcp
    unfold boolO
    rw [hlc, if_pos (by omega)]
theorem sized_oc {bs : List Int} {at' p cut : Nat} {zs : List Int} (hz : zs.length ≤ 1099511627776) (h : Fits bs at' p (numB (zs.length : Int) ++ zs)) (hc : cut ≤ bs.length) :
    (p ≤ cut → sizedO (bs.take cut) at' (zs.length : Int) = .inr (zs, p)) ∧ (cut < p → sizedO (bs.take cut) at' (zs.length : Int) = .inl 6) := by
  obtain ⟨hp, hm⟩ := fits_mid h
  rw [List.length_append] at hp hm
  have hlc : (bs.take cut).length = cut := by rw [List.length_take]; omega
  obtain ⟨q, hq⟩ : ∃ q, q = at' + (numB (zs.length : Int)).length := ⟨_, rfl⟩
  have hlen := h.2.1
  rw [List.take_add] at hm
  have hi := List.append_inj hm (by rw [List.length_take, List.length_drop]; omega)
  have hf : Fits bs at' q (numB (zs.length : Int)) := fits_of _ hq (by omega) hi.1.symm
  have hmid : (bs.drop q).take zs.length = zs := by
    have := hi.2
    rwa [List.drop_drop, ← hq] at this
  have hn := num_oc (by omega) (by omega) hf hc
  have hmx : ¬ max (zs.length : Int) 0 < (zs.length : Int) := by omega
  constructor
  · intro hpc
    unfold sizedO
    rw [hn.1 (by omega)]
    simp only [hmx, if_false, Int.toNat_natCast, hlc]
    rw [if_neg (by omega), List.drop_take, List.take_take, Nat.min_eq_left (by omega), hmid, show q + zs.length = p by omega]
  · intro hcp
    unfold sizedO
    by_cases h2 : q ≤ cut
    · rw [hn.1 h2]
      simp only [hmx, if_false, Int.toNat_natCast, hlc]
      rw [if_pos (by omega)]
    · rw [hn.2 (by omega)]
end WirBC
end Go.Proofs.Ythhnojnpjbklpaa

namespace Go.Proofs.Ythhnojnpjbklpaa
namespace WirBD
open Go.RowKit PaceA FltC
open BlkM WirM WirS WirA WirB WirC WirD WirE WirF WirG WirH WirI WirJ WirK WirL WirN WirO WirP WirQ WirR WirT WirU WirV WirW WirX WirZ WirNA WirRT WirAA WirAB WirBE WirBB WirBC WirBA

def ΦA {α : Type} (v : α) (q : Nat) : α → Nat → Int → Int → Prop := fun x p fe fa => x = v ∧ p = q ∧ fe = 0 ∧ fa = 0
def ΦB {α : Type} (at' : Nat) : α → Nat → Int → Int → Prop := fun _ _ fe fa => fe = 6 ∧ fa = (at' : Int)
def ΦC {α : Type} (q : Nat) (fe0 fa0 : Int) : α → Nat → Int → Int → Prop := fun _ p fe fa => p = q ∧ fe = fe0 ∧ fa = fa0
section
variable {w0 U : World} {L : List Thg} {R : Nat} {a : Option Addr} {c : Nat} {bs : List Int} {at' p : Nat} {g : FuncId} {args : Array Value}
theorem a_of {α β : Type} {f : α → Value} {f' : β → Value} {zero : Value} {o : Sum Int (α × Nat)} {x : α} (y : β) (hy : f' y = f x) (h : Bag w0 U (rdr R a c bs at' 0 0 :: L)) (ho : o = .inr (x, p)) (C : Calls Try.prog g args U (ReadPost U R a c bs at' zero (outOf f o))) : Calls Try.prog g args U (Rk w0 L R a c bs f' (ΦA y p)) :=
  (br_of h ho C).mono fun _ _ ⟨h1, h2⟩ => ⟨y, p, 0, 0, by rw [hy]; exact h1, h2, rfl, rfl, rfl, rfl⟩
theorem b_of {α β : Type} {f : α → Value} {f' : β → Value} {zero : Value} {o : Sum Int (α × Nat)} (y : β) (hy : f' y = zero) (h : Bag w0 U (rdr R a c bs at' 0 0 :: L)) (ho : o = .inl 6) (C : Calls Try.prog g args U (ReadPost U R a c bs at' zero (outOf f o))) : Calls Try.prog g args U (Rk w0 L R a c bs f' (ΦB at')) :=
  (bf_of h ho C).mono fun _ _ ⟨h1, q, h2⟩ => ⟨y, q, 6, at', by rw [hy]; exact h1, h2, rfl, rfl⟩
theorem c_of {β : Type} {f' : β → Value} {zero : Value} {fe fa : Int} (y : β) (hy : f' y = zero) (h : Bag w0 U (rdr R a c bs at' fe fa :: L)) (C : Calls Try.prog g args U fun e w' => e = .returned zero ∧ Below U.heap.size U w') : Calls Try.prog g args U (Rk w0 L R a c bs f' (ΦC at' fe fa)) :=
  C.mono fun _ _ ⟨h1, h2⟩ => ⟨y, at', fe, fa, by rw [hy]; exact h1, h.more h2, rfl, rfl, rfl⟩
theorem bag_new_own {w' : World} {va : Option Addr} {vn vc : Nat} {x : List Int} {q : Nat} {fe fa : Int} (h : Bag w0 U (rdr R a c bs at' fe fa :: L)) (hb : Bag w0 w' (rdr R a c bs q 0 0 :: L)) (h5 : Own w' 5 (.slice va vn vc) x) (h6 : NewB U (.slice va vn vc)) : Bag w0 w' (own (.slice va vn vc) x :: rdr R a c bs q 0 0 :: L) := by
  refine ⟨hb.low, fun y hy => ?_, List.pairwise_cons.2 ⟨fun y hy k hk hk' => ?_, hb.apart⟩⟩
  · rcases List.mem_cons.1 hy with rfl | hy
    · exact ⟨h5, fun k hk => Nat.le_trans h.low.size (h6 k hk)⟩
    · exact hb.all y hy
  · have hn := h6 k hk
    rcases List.mem_cons.1 hy with rfl | hy
    · rcases hk' with rfl | hk'
      · have := h.head.lt; omega
      · have := h.head.olt k hk'; omega
    · have := y.inside (h.all y (by simp [hy])).1 k hk'
      omega
theorem aB_of {o : Sum Int (List Int × Nat)} {x : List Int} (hr : rng x) (h : Bag w0 U (rdr R a c bs at' 0 0 :: L)) (ho : o = .inr (x, p)) (C : Calls Try.prog g args U (ReadPost U R a c bs at' (.slice none 0 0) (outB U o))) : Calls Try.prog g args U (RkB w0 L R a c bs (ΦA x p)) := by
  subst ho
  refine C.mono fun _ w' ⟨v, h1, ⟨va, vn, vc, hv, h5, h6⟩, h3, h4⟩ => ⟨va, vn, vc, x, p, 0, 0, by rw [h1, hv], bag_new_own h (bag_read h h3 h4) h5 h6, hr, rfl, rfl, rfl, rfl⟩
theorem bB_of {o : Sum Int (List Int × Nat)} (h : Bag w0 U (rdr R a c bs at' 0 0 :: L)) (ho : o = .inl 6) (C : Calls Try.prog g args U (ReadPost U R a c bs at' (.slice none 0 0) (outB U o))) : Calls Try.prog g args U (RkB w0 L R a c bs (ΦB at')) := by
  subst ho
  exact C.mono fun _ w' ⟨h1, ⟨q, h2⟩, h3⟩ => ⟨none, 0, 0, [], q, 6, at', h1, (bag_read h h2 h3).new (Below.refl _ w') (own_nil w') (fun k hk => by cases hk), (fun _ h => by cases h), rfl, rfl⟩
theorem cB_of {fe fa : Int} (h : Bag w0 U (rdr R a c bs at' fe fa :: L)) (C : Calls Try.prog g args U fun e w' => e = .returned (.slice none 0 0) ∧ Below U.heap.size U w') : Calls Try.prog g args U (RkB w0 L R a c bs (ΦC at' fe fa)) :=
  C.mono fun _ w' ⟨h1, h2⟩ => ⟨none, 0, 0, [], at', fe, fa, h1, (h.more h2).new (Below.refl _ w') (own_nil w') (fun k hk => by cases hk), (fun _ h => by cases h), rfl, rfl, rfl⟩
end
theorem canon_back (u : Nat) : ((canon u == u) || (isN (canon u) && isN u)) = true := by
  cases h : isN u with
  | false => simp [canon, h]
  | true =>
    rw [canon_nan h]
    have : isN 9221120237041090560 = true := by decide
    rw [this]
    simp
def sub32 (l : List Int) (h : l.length = 32) : { l : List Int // l.length = 32 } := ⟨l, h⟩
/-- The answer true, and the reader moved on. -/
def Good (w0 : World) (l : List Thg) (R : Nat) (a : Option Addr) (c : Nat) (bs : List Int) (p : Nat) (e : Ending) (w' : World) : Prop := e = .returned (.bool true) ∧ Bag w0 w' (rdr R a c bs p 0 0 :: l)
theorem good_of {α : Type} {w0 : World} {l : List Thg} {R : Nat} {a : Option Addr} {c : Nat} {bs : List Int} {p : Nat} {gt : α → Bool} {v : α} (hg : gt v = true) {e : Ending} {w' : World} (h : Bk w0 l R a c bs gt (ΦA v p) e w') : Good w0 l R a c bs p e w' := by
  obtain ⟨x, q, fe, fa, h1, h2, rfl, rfl, rfl, rfl⟩ := h
  exact ⟨by rw [h1, hg], h2⟩
theorem back_ok (w0 U : World) (l : List Thg) (R : Nat) (a : Option Addr) (c : Nat) (bs : List Int) (at' p cut : Nat) (x : Te) (hw : Wf w0 x.t x.va x.vn x.vc x.zs) (hs : x.vn ≤ 300) (hk : 0 ≤ x.t.kd ∧ x.t.kd ≤ 7) (hn : x.t.kd = 0 → 0 ≤ x.t.n)
    (hf : Fits bs at' p (form x.t x.zs)) (hc : cut ≤ bs.length) (hp : p ≤ cut) (h : Bag w0 U (rdr R a c (bs.take cut) at' 0 0 :: l)) :
    Calls Try.prog 45 #[.pointer (some ⟨R, 0, none⟩), .agg x.t.cells.toArray] U (Good w0 l R a c (bs.take cut) p) := by
  have hlen := hw.len
  obtain ⟨u, hu⟩ := Int.eq_ofNat_of_zero_le hw.u0
  have hu1 := hw.u1
  have hn1 := hw.n1
  have h300 : x.zs.length ≤ 300 := by omega
  obtain k | k | k | k | k | k | k | k : x.t.kd = 0 ∨ x.t.kd = 1 ∨ x.t.kd = 2 ∨ x.t.kd = 3 ∨ x.t.kd = 4 ∨ x.t.kd = 5 ∨ x.t.kd = 6 ∨ x.t.kd = 7 := by omega
  · exact (back0 w0 U l R a c _ at' 0 0 x.t _ k (fun V L hV => a_of x.t.n rfl hV ((num_oc (hn k) (by omega) (by simpa [form, k] using hf) hc).1 hp) (num_read V R a c _ at' hV.head)) h).mono fun _ _ hh => good_of (by simp) hh
  · have ho : sizedO (bs.take cut) at' (x.vn : Int) = .inr (x.zs, p) := by rw [hlen]; exact (sized_oc (zs := x.zs) (by omega) (by simpa [form, k] using hf) hc).1 hp
    exact (back1 w0 U l R a c _ at' 0 0 x.t _ k x.va x.vn x.vc hw.hv x.zs hw.bin (fun V L hV => a_of (f := fun zs => .string (st zs)) (f' := fun zs => .string (st zs)) x.zs rfl hV ho (text_read V R a c _ at' x.vn hV.head)) h).mono fun _ _ hh => good_of (by simp) hh
  · have ho : sizedO (bs.take cut) at' (x.vn : Int) = .inr (x.zs, p) := by rw [hlen]; exact (sized_oc (zs := x.zs) (by omega) (by simpa [form, k] using hf) hc).1 hp
    exact (back2 w0 U l R a c _ at' 0 0 x.t _ k x.va x.vn x.vc hw.hv x.zs hw.bin hw.rz (fun V L hV => aB_of hw.rz hV ho (bytes_read V R a c _ at' x.vn hV.head)) h).mono fun _ _ hh => good_of (by simp) hh
  · exact (back3 w0 U l R a c _ at' 0 0 x.t _ k (fun V L hV => a_of (f := aggB) (f' := fun x : { l : List Int // l.length = 32 } => aggB x.1) ⟨x.t.h, x.t.lh⟩ rfl hV ((row_oc x.t.lh (by simpa [form, k] using hf) hc).1 hp) (hash_read V R a c _ at' hV.head)) h).mono fun _ _ hh => good_of (by simp) hh
  · exact (back4 w0 U l R a c _ at' 0 0 x.t _ k (fun V L hV => a_of (f := aggB) (f' := fun x : { l : List Int // l.length = 4 } => aggB x.1) ⟨x.t.k, x.t.lk⟩ rfl hV ((row_oc x.t.lk (by simpa [form, k] using hf) hc).1 hp) (key_read V R a c _ at' hV.head)) h).mono fun _ _ hh => good_of (by simp) hh
  · exact (back5 w0 U l R a c _ at' 0 0 x.t _ k (fun V L hV => a_of x.t.u rfl hV ((word_oc hw.u0 hu1 (by simpa [form, k] using hf) hc).1 hp) (word_read V R a c _ at' hV.head)) h).mono fun _ _ hh => good_of (by simp) hh
  · exact (back6 w0 U l R a c _ at' 0 0 x.t _ k u hu (fun V L hV => a_of (canon u) rfl hV ((pace_oc (canon_lt (by omega)) (canon_canon u) (by simpa [form, k, hu] using hf) hc).1 hp) (pace_read V R a c _ at' hV.head)) h).mono fun _ _ hh => good_of (gt := fun y => (y == u) || (isN y && isN u)) (v := canon u) (canon_back u) hh
  · exact (back7 w0 U l R a c _ at' 0 0 x.t _ k (fun V L hV => a_of x.t.is rfl hV ((bool_oc (by simpa [form, k] using hf) hc).1 hp) (bool_read V R a c _ at' hV.head)) h).mono fun _ _ hh => good_of (by simp) hh
/-- Some answer, and a fault. -/
def Ill (w0 : World) (l : List Thg) (R : Nat) (a : Option Addr) (c : Nat) (bs : List Int) (fe fa : Int) (e : Ending) (w' : World) : Prop := ∃ b p, e = .returned (.bool b) ∧ Bag w0 w' (rdr R a c bs p fe fa :: l)
theorem ill_b {α : Type} {w0 : World} {l : List Thg} {R : Nat} {a : Option Addr} {c : Nat} {bs : List Int} {at' : Nat} {gt : α → Bool} {e : Ending} {w' : World} (h : Bk w0 l R a c bs gt (ΦB at') e w') : Ill w0 l R a c bs 6 (at' : Int) e w' := by
  obtain ⟨x, q, fe, fa, h1, h2, rfl, rfl⟩ := h
  exact ⟨_, q, h1, h2⟩
theorem ill_c {α : Type} {w0 : World} {l : List Thg} {R : Nat} {a : Option Addr} {c : Nat} {bs : List Int} {at' : Nat} {fe0 fa0 : Int} {gt : α → Bool} {e : Ending} {w' : World} (h : Bk w0 l R a c bs gt (ΦC at' fe0 fa0) e w') : Ill w0 l R a c bs fe0 fa0 e w' := by
  obtain ⟨x, q, fe, fa, h1, h2, rfl, rfl, rfl⟩ := h
  exact ⟨_, _, h1, h2⟩
theorem back_cut (w0 U : World) (l : List Thg) (R : Nat) (a : Option Addr) (c : Nat) (bs : List Int) (at' p cut : Nat) (x : Te) (hw : Wf w0 x.t x.va x.vn x.vc x.zs) (hs : x.vn ≤ 300) (hk : 0 ≤ x.t.kd ∧ x.t.kd ≤ 7) (hn : x.t.kd = 0 → 0 ≤ x.t.n)
    (hf : Fits bs at' p (form x.t x.zs)) (hc : cut ≤ bs.length) (hp : cut < p) (h : Bag w0 U (rdr R a c (bs.take cut) at' 0 0 :: l)) :
    Calls Try.prog 45 #[.pointer (some ⟨R, 0, none⟩), .agg x.t.cells.toArray] U (Ill w0 l R a c (bs.take cut) 6 (at' : Int)) := by
  have hlen := hw.len
  obtain ⟨u, hu⟩ := Int.eq_ofNat_of_zero_le hw.u0
  have hu1 := hw.u1
  have hn1 := hw.n1
  have h300 : x.zs.length ≤ 300 := by omega
  obtain k | k | k | k | k | k | k | k : x.t.kd = 0 ∨ x.t.kd = 1 ∨ x.t.kd = 2 ∨ x.t.kd = 3 ∨ x.t.kd = 4 ∨ x.t.kd = 5 ∨ x.t.kd = 6 ∨ x.t.kd = 7 := by omega
  · exact (back0 w0 U l R a c _ at' 0 0 x.t _ k (fun V L hV => b_of 0 rfl hV ((num_oc (hn k) (by omega) (by simpa [form, k] using hf) hc).2 hp) (num_read V R a c _ at' hV.head)) h).mono fun _ _ hh => ill_b hh
  · have ho : sizedO (bs.take cut) at' (x.vn : Int) = .inl 6 := by rw [hlen]; exact (sized_oc (zs := x.zs) (by omega) (by simpa [form, k] using hf) hc).2 hp
    exact (back1 w0 U l R a c _ at' 0 0 x.t _ k x.va x.vn x.vc hw.hv x.zs hw.bin (fun V L hV => b_of (f := fun zs => .string (st zs)) (f' := fun zs => .string (st zs)) [] rfl hV ho (text_read V R a c _ at' x.vn hV.head)) h).mono fun _ _ hh => ill_b hh
  · have ho : sizedO (bs.take cut) at' (x.vn : Int) = .inl 6 := by rw [hlen]; exact (sized_oc (zs := x.zs) (by omega) (by simpa [form, k] using hf) hc).2 hp
    exact (back2 w0 U l R a c _ at' 0 0 x.t _ k x.va x.vn x.vc hw.hv x.zs hw.bin hw.rz (fun V L hV => bB_of hV ho (bytes_read V R a c _ at' x.vn hV.head)) h).mono fun _ _ hh => ill_b hh
  · exact (back3 w0 U l R a c _ at' 0 0 x.t _ k (fun V L hV => b_of (f' := fun x : { l : List Int // l.length = 32 } => aggB x.1) ⟨zz 32, by simp [zz]⟩ rfl hV ((row_oc x.t.lh (by simpa [form, k] using hf) hc).2 hp) (hash_read V R a c _ at' hV.head)) h).mono fun _ _ hh => ill_b hh
  · exact (back4 w0 U l R a c _ at' 0 0 x.t _ k (fun V L hV => b_of (f' := fun x : { l : List Int // l.length = 4 } => aggB x.1) ⟨zz 4, by simp [zz]⟩ rfl hV ((row_oc x.t.lk (by simpa [form, k] using hf) hc).2 hp) (key_read V R a c _ at' hV.head)) h).mono fun _ _ hh => ill_b hh
  · exact (back5 w0 U l R a c _ at' 0 0 x.t _ k (fun V L hV => b_of 0 rfl hV ((word_oc hw.u0 hu1 (by simpa [form, k] using hf) hc).2 hp) (word_read V R a c _ at' hV.head)) h).mono fun _ _ hh => ill_b hh
  · exact (back6 w0 U l R a c _ at' 0 0 x.t _ k u hu (fun V L hV => b_of 0 rfl hV ((pace_oc (canon_lt (by omega)) (canon_canon u) (by simpa [form, k, hu] using hf) hc).2 hp) (pace_read V R a c _ at' hV.head)) h).mono fun _ _ hh => ill_b hh
  · exact (back7 w0 U l R a c _ at' 0 0 x.t _ k (fun V L hV => b_of false rfl hV ((bool_oc (by simpa [form, k] using hf) hc).2 hp) (bool_read V R a c _ at' hV.head)) h).mono fun _ _ hh => ill_b hh
theorem back_ill (w0 U : World) (l : List Thg) (R : Nat) (a : Option Addr) (c : Nat) (bs : List Int) (at' : Nat) (fe fa : Int) (hfe : fe ≠ 0) (x : Te) (hw : Wf w0 x.t x.va x.vn x.vc x.zs) (hk : 0 ≤ x.t.kd ∧ x.t.kd ≤ 7) (h : Bag w0 U (rdr R a c bs at' fe fa :: l)) :
    Calls Try.prog 45 #[.pointer (some ⟨R, 0, none⟩), .agg x.t.cells.toArray] U (Ill w0 l R a c bs fe fa) := by
  obtain ⟨u, hu⟩ := Int.eq_ofNat_of_zero_le hw.u0
  obtain k | k | k | k | k | k | k | k : x.t.kd = 0 ∨ x.t.kd = 1 ∨ x.t.kd = 2 ∨ x.t.kd = 3 ∨ x.t.kd = 4 ∨ x.t.kd = 5 ∨ x.t.kd = 6 ∨ x.t.kd = 7 := by omega
  · exact (back0 w0 U l R a c _ at' fe fa x.t _ k (fun V L hV => c_of 0 rfl hV (num_fault V R a c _ at' fe fa hV.head hfe)) h).mono fun _ _ hh => ill_c hh
  · exact (back1 w0 U l R a c _ at' fe fa x.t _ k x.va x.vn x.vc hw.hv x.zs hw.bin (fun V L hV => c_of [] rfl hV (text_fault V R a c _ at' fe fa x.vn hV.head hfe)) h).mono fun _ _ hh => ill_c hh
  · exact (back2 w0 U l R a c _ at' fe fa x.t _ k x.va x.vn x.vc hw.hv x.zs hw.bin hw.rz (fun V L hV => cB_of hV (bytes_fault V R a c _ at' fe fa x.vn hV.head hfe)) h).mono fun _ _ hh => ill_c hh
  · exact (back3 w0 U l R a c _ at' fe fa x.t _ k (fun V L hV => c_of (f' := fun x : { l : List Int // l.length = 32 } => aggB x.1) ⟨zz 32, by simp [zz]⟩ rfl hV (hash_fault V R a c _ at' fe fa hV.head hfe)) h).mono fun _ _ hh => ill_c hh
  · exact (back4 w0 U l R a c _ at' fe fa x.t _ k (fun V L hV => c_of (f' := fun x : { l : List Int // l.length = 4 } => aggB x.1) ⟨zz 4, by simp [zz]⟩ rfl hV (key_fault V R a c _ at' fe fa hV.head hfe)) h).mono fun _ _ hh => ill_c hh
  · exact (back5 w0 U l R a c _ at' fe fa x.t _ k (fun V L hV => c_of 0 rfl hV (word_fault V R a c _ at' fe fa hV.head hfe)) h).mono fun _ _ hh => ill_c hh
  · exact (back6 w0 U l R a c _ at' fe fa x.t _ k u hu (fun V L hV => c_of 0 rfl hV (pace_fault V R a c _ at' fe fa hV.head hfe)) h).mono fun _ _ hh => ill_c hh
  · exact (back7 w0 U l R a c _ at' fe fa x.t _ k (fun V L hV => c_of false rfl hV (bool_fault V R a c _ at' fe fa hV.head hfe)) h).mono fun _ _ hh => ill_c hh
end WirBD
end Go.Proofs.Ythhnojnpjbklpaa

namespace Go.Proofs.Ythhnojnpjbklpaa
namespace WirBF
open Go.RowKit PaceA FltC
open BlkM WirM WirS WirA WirB WirC WirD WirE WirF WirG WirH WirI WirJ WirK WirL WirN WirO WirP WirQ WirR WirT WirU WirV WirW WirX WirZ WirNA WirRT WirAA WirAB WirBE WirBB WirBC WirBA WirBD

theorem ixT (B o ln lc k : Nat) (hk : k < ln) (W : World) : (Instr.indexAt 22 (.slice (some ⟨B, o, none⟩) ln lc) (.int .i64 (k : Int))).run Try.prog W = .ok (.pointer (some ⟨B, o + k * 41, none⟩)) W := by
  have hs : (sizeOf (Try.prog.elem 22)).run Try.prog W = .ok 41 W := by kernel_rfl
  simp [Instr.indexAt, run_underlying Try.underlying22, asIntOf, go_sem]
  intro h
  omega
theorem opX (a : Operand → Value) (ob : Oper) (x y : Operand) (B o ln lc k : Nat) (ho : ob.op = Op.indexAddr 22 x y) (hx : a x = .slice (some ⟨B, o, none⟩) ln lc) (hy : a y = .int .i64 (k : Int)) (hk : k < ln) (W : World) :
    (execOp a ob).run Try.prog W = .ok (.value (.pointer (some ⟨B, o + k * 41, none⟩))) W := by
  unfold execOp
  rw [ho]
  simp only [hx, hy]
  simp [ixT B o ln lc k hk W]
/-- A thing's bytes; no bytes of what is nothing. -/
def fm (x : Te) : List Int := if 0 ≤ x.t.kd ∧ x.t.kd ≤ 7 then form x.t x.zs else []
def fms (l : List Te) : List Int := l.flatMap fm
theorem fms_succ {ts : List Te} {k : Nat} {x : Te} (h : ts[k]? = some x) : fms (ts.take (k + 1)) = fms (ts.take k) ++ fm x := by
  rw [List.take_add_one, h]
  simp [fms]
theorem fm_len (x : Te) (h : x.zs.length ≤ 300) (hn : x.t.n ≤ 9223372036854775807) : (fm x).length ≤ 309 := by
  unfold fm
  split
  · unfold form
    have h1 := nb_le x.t.n (by omega)
    have h2 := nb_le (x.zs.length : Int) (by omega)
    split
    · rw [numB_len _ (by omega)]; omega
    split
    · rw [List.length_append, numB_len _ (by omega)]; omega
    split
    · rw [x.t.lh]; omega
    split
    · rw [x.t.lk]; omega
    split
    · rw [wordB_len]; omega
    split
    · rw [wordB_len]; omega
    · simp [boolB]
  · simp
theorem fms_len : ∀ (l : List Te), (∀ x ∈ l, (fm x).length ≤ 309) → (fms l).length ≤ 309 * l.length
  | [], _ => by simp [fms]
  | x :: l, h => by
    have h1 := h x (by simp)
    have h2 := fms_len l (fun y hy => h y (by simp [hy]))
    have e : fms (x :: l) = fm x ++ fms l := by simp [fms]
    rw [e, List.length_append, List.length_cons]
    omega
theorem fms_take_le (ts : List Te) (k : Nat) : (fms (ts.take k)).length ≤ (fms ts).length := by
  have : fms ts = fms (ts.take k) ++ fms (ts.drop k) := by
    unfold fms
    rw [← List.flatMap_append, List.take_append_drop]
  rw [this, List.length_append]
  omega
theorem fms_fits {ts : List Te} {k : Nat} {x : Te} (h : ts[k]? = some x) : Fits (fms ts) (fms (ts.take k)).length (fms (ts.take (k + 1))).length (fm x) := by
  have hsplit : ∀ j, fms ts = fms (ts.take j) ++ fms (ts.drop j) := fun j => by
    unfold fms
    rw [← List.flatMap_append, List.take_append_drop]
  refine ⟨by rw [fms_succ h, List.length_append]; omega, fms_take_le _ _, ?_⟩
  have e1 : (fms ts).take (fms (ts.take k)).length = fms (ts.take k) := by
    rw [hsplit k, List.take_append_of_le_length (Nat.le_refl _), List.take_of_length_le (Nat.le_refl _)]
  have e2 : (fms ts).take (fms (ts.take (k + 1))).length = fms (ts.take (k + 1)) := by
    rw [hsplit (k + 1), List.take_append_of_le_length (Nat.le_refl _), List.take_of_length_le (Nat.le_refl _)]
  rw [e1, e2, fms_succ h]
theorem backE (w0 w : World) (l : List Thg) (p : Value) (t : Td) (hk : ¬ (0 ≤ t.kd ∧ t.kd ≤ 7)) (h : Bag w0 w l) :
    Calls Try.prog 45 #[p, .agg t.cells.toArray] w (fun e w' => e = .returned (.bool true) ∧ Bag w0 w' l) := by
  obtain ⟨W0, e0⟩ : ∃ X, X = PW w t := ⟨_, rfl⟩
  have hA : At W0 w.heap.size 39 t.cells := by rw [e0]; exact PW_at _ _
  have HB := WirS.hide (show Bag w0 W0 l by rw [e0]; exact h.more (PW_below _ _))
  have c0 : W0.cell? ⟨w.heap.size, 0, none⟩ = some (.int .i64 t.kd) := by rw [hA.cell]; rfl
  have E0 := WirS.hide e0
  have h0 : (t.kd == 0) = false := by simp; omega
  have h1 : (t.kd == 1) = false := by simp; omega
  have h2 : (t.kd == 2) = false := by simp; omega
  have h3 : (t.kd == 3) = false := by simp; omega
  have h4 : (t.kd == 4) = false := by simp; omega
  have h5 : (t.kd == 5) = false := by simp; omega
  have h6 : (t.kd == 6) = false := by simp; omega
  have h7 : (t.kd == 7) = false := by simp; omega
  clear hA hk e0 h
  go_enter Try.func45, Try.ntmps45
  go_upto_region 1 with fail
  rw [show w.alloc (.cells t.cells.toArray 39) = W0 from E0.out.symm]
  go_wp2_with fail
  go_ret
  exact ⟨rfl, HB.out⟩
theorem dg_rng (n : Int) : ∀ k, rng (dg n k)
  | 0 => fun x h => by cases h
  | k + 1 => fun x h => by
    rcases List.mem_cons.1 h with rfl | h
    · omega
    · exact dg_rng n k x h
theorem numB_rng (n : Int) (h1 : n < 18446744073709551616) : rng (numB n) := fun x h => by
  rw [numB_dg n h1] at h
  rcases List.mem_cons.1 h with rfl | h
  · have := nb_le n h1
    omega
  · exact dg_rng _ _ x h
theorem wordB_rng (n : Int) : rng (wordB n) := by rw [wordB_dg]; exact dg_rng n 8
theorem fm_rng (x : Te) (hz : rng x.zs) (hh : rng x.t.h) (hk : rng x.t.k) (hl : x.zs.length ≤ 300) (hn : x.t.n ≤ 9223372036854775807) : rng (fm x) := by
  unfold fm
  split
  · unfold form
    split
    · exact numB_rng _ (by omega)
    split
    · intro y hy
      rcases List.mem_append.1 hy with hy | hy
      · exact numB_rng _ (by omega) y hy
      · exact hz y hy
    split
    · exact hh
    split
    · exact hk
    split
    · exact wordB_rng _
    split
    · exact wordB_rng _
    · intro y hy
      unfold boolB at hy
      rw [List.mem_singleton.1 hy]
      split <;> omega
  · exact fun y hy => by cases hy
theorem fms_rng (l : List Te) (h : ∀ x ∈ l, rng (fm x)) : rng (fms l) := fun y hy => by
  obtain ⟨x, hx, hy⟩ := List.mem_flatMap.1 hy
  exact h x hx y hy
theorem back_fm (w0 U : World) (l : List Thg) (R : Nat) (a : Option Addr) (c : Nat) (bs : List Int) (at' p cut : Nat) (x : Te) (hw : Wf w0 x.t x.va x.vn x.vc x.zs) (hs : x.vn ≤ 300) (hn : x.t.kd = 0 → 0 ≤ x.t.n)
    (hf : Fits bs at' p (fm x)) (hc : cut ≤ bs.length) (hp : p ≤ cut) (h : Bag w0 U (rdr R a c (bs.take cut) at' 0 0 :: l)) :
    Calls Try.prog 45 #[.pointer (some ⟨R, 0, none⟩), .agg x.t.cells.toArray] U (WirBD.Good w0 l R a c (bs.take cut) p) := by
  by_cases hk : 0 ≤ x.t.kd ∧ x.t.kd ≤ 7
  · rw [show fm x = form x.t x.zs by unfold fm; rw [if_pos hk]] at hf
    exact back_ok w0 U l R a c bs at' p cut x hw hs hk hn hf hc hp h
  · rw [show fm x = [] by unfold fm; rw [if_neg hk]] at hf
    have := (fits_mid hf).1
    rw [List.length_nil, Nat.add_zero] at this
    subst this
    exact backE w0 U _ _ x.t hk h
/-- Where a reader of cut off bytes stands. -/
def St3 (cut pn : Nat) (p : Nat) (fe fa : Int) : Prop := (fe = 0 ∧ fa = 0 ∧ p = pn ∧ p ≤ cut) ∨ (fe = 6 ∧ fa ≤ (cut : Int))
def Post3 (w0 : World) (l : List Thg) (R : Nat) (a : Option Addr) (c : Nat) (bs : List Int) (cut pn : Nat) (e : Ending) (w' : World) : Prop :=
  ∃ b p fe fa, e = .returned (.bool b) ∧ Bag w0 w' (rdr R a c (bs.take cut) p fe fa :: l) ∧ St3 cut pn p fe fa
theorem back_3 (w0 U : World) (l : List Thg) (R : Nat) (a : Option Addr) (c : Nat) (bs : List Int) (at' p cut q : Nat) (fe fa : Int) (x : Te) (hw : Wf w0 x.t x.va x.vn x.vc x.zs) (hs : x.vn ≤ 300) (hn : x.t.kd = 0 → 0 ≤ x.t.n)
    (hf : Fits bs at' p (fm x)) (hc : cut ≤ bs.length) (hst : St3 cut at' q fe fa) (h : Bag w0 U (rdr R a c (bs.take cut) q fe fa :: l)) :
    Calls Try.prog 45 #[.pointer (some ⟨R, 0, none⟩), .agg x.t.cells.toArray] U (Post3 w0 l R a c bs cut p) := by
  rcases hst with ⟨rfl, rfl, rfl, hle⟩ | ⟨rfl, hfa⟩
  · by_cases hpc : p ≤ cut
    · exact (back_fm w0 U l R a c bs q p cut x hw hs hn hf hc hpc h).mono fun _ _ ⟨h1, h2⟩ => ⟨true, p, 0, 0, h1, h2, .inl ⟨rfl, rfl, rfl, hpc⟩⟩
    · by_cases hk : 0 ≤ x.t.kd ∧ x.t.kd ≤ 7
      · rw [show fm x = form x.t x.zs by unfold fm; rw [if_pos hk]] at hf
        exact (back_cut w0 U l R a c bs q p cut x hw hs hk hn hf hc (by omega) h).mono fun _ _ ⟨b, p', h1, h2⟩ => ⟨b, p', 6, q, h1, h2, .inr ⟨rfl, by omega⟩⟩
      · rw [show fm x = [] by unfold fm; rw [if_neg hk]] at hf
        have := (fits_mid hf).1
        rw [List.length_nil] at this
        omega
  · by_cases hk : 0 ≤ x.t.kd ∧ x.t.kd ≤ 7
    · exact (back_ill w0 U l R a c _ q 6 fa (by decide) x hw hk h).mono fun _ _ ⟨b, p', h1, h2⟩ => ⟨b, p', 6, fa, h1, h2, .inr ⟨rfl, hfa⟩⟩
    · exact (backE w0 U _ _ x.t hk h).mono fun _ _ ⟨h1, h2⟩ => ⟨true, q, 6, fa, h1, h2, .inr ⟨rfl, hfa⟩⟩
end WirBF
end Go.Proofs.Ythhnojnpjbklpaa

namespace Go.Proofs.Ythhnojnpjbklpaa
namespace WirBH
open Go.RowKit FltC Go.Lib
open BlkM WirM WirS WirA WirB WirC WirD WirE WirF WirG WirH WirI WirJ WirK WirL WirN WirO WirP WirQ WirR WirT WirU WirV WirW WirX WirZ WirNA WirRT WirAA
set_option maxHeartbeats 1600000 in
theorem put_ok2 (w : World) (W : Nat) (lim : Int) (v : Value) (zs : List Int) (a b : Option Addr) (n c m d : Nat) (hs bd : List Int) (h : WSt w W lim v zs 0)
    (hx : BIn w (.slice a n c) hs) (hy : BIn w (.slice b m d) bd) (ox : Apart W v (.slice a n c)) (oy : bd ≠ [] → Apart W v (.slice b m d)) (hl : (zs.length : Int) + ((n + m : Nat) : Int) ≤ lim) :
    Calls Try.prog 130 #[.pointer (some ⟨W, 0, none⟩), .slice a n c, .slice b m d] w (Wrote w W lim v (zs ++ (hs ++ bd)) 0) := by
  obtain ⟨va, vc, hv⟩ := len_of h.own
  obtain ⟨_, _, e1, _⟩ := id hx
  obtain ⟨_, _, e2, _⟩ := id hy
  have hnl : n = hs.length := by cases e1; rfl
  have hml : m = bd.length := by cases e2; rfl
  have c1 : w.cell? ⟨W, 1, none⟩ = some (.int .i64 lim) := by rw [h.at'.cell]; rfl
  have c2 : w.cell? ⟨W, 2, none⟩ = some (.slice va zs.length vc) := by rw [h.at'.cell, hv]; rfl
  have hlo := h.low
  have hhi := h.high
  have hfit := h.fits
  have H := hide (state_any w W lim v zs 0 h)
  obtain ⟨k, hk⟩ : ∃ k, k = zs.length := ⟨_, rfl⟩
  have hl0 := hl
  rw [← hk] at c2 hfit hl
  have w1 : IntKind.i64.wrap (↑n + ↑m) = (n : Int) + (m : Int) := IntWalk.i64_in _ (by omega)
  have w2 : IntKind.i64.wrap (lim - ↑k) = lim - (k : Int) := IntWalk.i64_in _ (by omega)
  have w3 : decide (lim - (k : Int) < (n : Int) + (m : Int)) = false := decide_eq_false (by omega)
  obtain ⟨i0, hi, hz0, hz1, hz2⟩ := info_parts (show (Try.prog.info? 5).map (fun i => (i.zero, i.size, i.bytes)) = some (some (.int .u8 0), 1, 1) by kernel_rfl)
  -- what the two appends yield, in whatever world the test is left
  have HA : ∀ q, ∃ v1 u1 v2 u2, (Builtin.append_ #[32, 32] 32 #[v, .slice a n c]).run Try.prog (w.drewN q) = .ok v1 u1 ∧ (Builtin.append_ #[32, 32] 32 #[v1, .slice b m d]).run Try.prog u1 = .ok v2 u2 ∧
      Own u2 5 v2 (zs ++ (hs ++ bd)) ∧ Step w W v u2 v2 ∧ v2.ownBlock ≠ some W ∧ At u2 W 59 (wcells W lim v 0) := fun q => by
    have hd : Fr (Xw W v) w (w.drewN q) := Fr.drewN (Fr.refl _ w) q
    have hd0 : Fr (fun _ => False) w (w.drewN q) := Fr.drewN (Fr.refl _ w) q
    obtain ⟨v1, u1, r1, o1, f1, n1⟩ := app_any (P := Try.prog) (w.drewN q) 32 32 32 5 i0 _ Try.underlying32 hi hz0 hz1 hz2 rfl v (.slice a n c) zs hs (h.own.fr hd0 (fun _ _ h => h)) ((hx.fr hd0 (fun _ _ h => h)).src Try.underlying32) (by omega)
    have hW1 : v1.ownBlock ≠ some W := fun e => by
      rcases n1 W e with e | e
      · exact h.off e
      · have := h.lt
        exact absurd (show w.heap.size ≤ W from e) (by omega)
    have hy1 : BIn u1 (.slice b m d) bd := by
      by_cases hbd : bd = []
      · obtain ⟨b', d', e, hc, _⟩ := hy
        exact ⟨b', d', e, hc, fun h => absurd hbd h⟩
      · exact (hy.fr hd0 (fun _ _ h => h)).fr f1 (fun k hk hx => oy hbd k hk (.inr hx))
    obtain ⟨v2, u2, r2, o2, f2, n2⟩ := app_any (P := Try.prog) u1 32 32 32 5 i0 _ Try.underlying32 hi hz0 hz1 hz2 rfl v1 (.slice b m d) (zs ++ hs) bd o1 (hy1.src Try.underlying32) (by rw [List.length_append]; omega)
    have s1 : Step w W v u1 v1 := ⟨hd.trans (f1.mono fun i _ hi => .inr hi), n1⟩
    have s2 : Step u1 W v1 u2 v2 := ⟨f2.mono fun i _ hi => .inr hi, n2⟩
    have hW2 : v2.ownBlock ≠ some W := fun e => by
      rcases n2 W e with e | e
      · exact hW1 e
      · have := h.lt
        have := s1.1.size
        omega
    refine ⟨v1, u1, v2, u2, r1, r2, by rw [← List.append_assoc]; exact o2, s1.trans s2, hW2, ?_⟩
    exact At.fr (At.fr (At.fr h.at' hd0 (fun h => h)) f1 (fun e => h.off e)) f2 (fun e => hW1 e)
  have HA := hide HA
  have HH := hide h
  have HV := hide hv
  have HK := hide hk
  have HL := hide (show ((zs ++ (hs ++ bd)).length : Int) ≤ lim by simp only [List.length_append]; omega)
  clear hv hk h hx hy ox oy hnl hml e1 e2 hi hz0 hz1 hz2
  go_enter Try.func130, Try.ntmps130
  go_upto_region 4 with ((go_at_call 87; refine (H.out).mono ?_; rintro e w1 ⟨rfl, rfl⟩))
  go_quiet (fail)
  go_upto_region 6 with fail
  rename_i nq _ _
  obtain ⟨v1, u1, v2, u2, r1, r2, own2, st2, off2, at2⟩ := HA.out nq
  have c2' : (w.drewN nq).cell? ⟨W, 2, none⟩ = some v := by rw [HV.out, ← HK.out]; simpa using c2
  have hf := at2.frozen 2
  have hc : u2.cell? ⟨W, 2, none⟩ = some v := by rw [at2.cell]; rfl
  refine wp_region_lit ?_
  refine sV (.pointer (some ⟨W, 0, none⟩)) (w.drewN nq) (by kernel_rfl) (by kernel_rfl) ?_
  simp only [Act.put, List.setIfInBounds_toArray, List.set_cons_succ, List.set_cons_zero]
  refine sV (.pointer (some ⟨W, 0, none⟩)) (w.drewN nq) (by kernel_rfl) (by kernel_rfl) ?_
  simp only [Act.put, List.setIfInBounds_toArray, List.set_cons_succ, List.set_cons_zero]
  refine sV (.pointer (some ⟨W, 0, none⟩)) (w.drewN nq) (by kernel_rfl) (by kernel_rfl) ?_
  simp only [Act.put, List.setIfInBounds_toArray, List.set_cons_succ, List.set_cons_zero]
  refine sV (.pointer (some ⟨W, 2, none⟩)) (w.drewN nq) (by kernel_rfl) (by kernel_rfl) ?_
  simp only [Act.put, List.setIfInBounds_toArray, List.set_cons_succ, List.set_cons_zero]
  refine sP (by kernel_rfl) _ _ (by rfl) ⟨W, 2, none⟩ (by kernel_rfl) (v) c2' (by kernel_rfl) ?_
  simp only [Act.put, List.setIfInBounds_toArray, List.set_cons_succ, List.set_cons_zero]
  refine sV (.slice a n c) (w.drewN nq) (by kernel_rfl) (by kernel_rfl) ?_
  simp only [Act.put, List.setIfInBounds_toArray, List.set_cons_succ, List.set_cons_zero]
  refine sA (by kernel_rfl) 32 32 _ _ (by rfl) (v) (.slice a n c) (by kernel_rfl) (by kernel_rfl) (v1) (u1) r1 ?_
  simp only [Act.put, List.setIfInBounds_toArray, List.set_cons_succ, List.set_cons_zero]
  refine sV (.slice b m d) (u1) (by kernel_rfl) (by kernel_rfl) ?_
  simp only [Act.put, List.setIfInBounds_toArray, List.set_cons_succ, List.set_cons_zero]
  refine sA (by kernel_rfl) 32 32 _ _ (by rfl) (v1) (.slice b m d) (by kernel_rfl) (by kernel_rfl) (v2) (u2) r2 ?_
  simp only [Act.put, List.setIfInBounds_toArray, List.set_cons_succ, List.set_cons_zero]
  clear c2' r1 r2
  obtain ⟨a2, c2, e2⟩ := len_of own2
  obtain ⟨n2, hn2⟩ : ∃ n2, n2 = (zs ++ (hs ++ bd)).length := ⟨_, rfl⟩
  rw [← hn2] at e2
  subst e2
  clear hn2
  go_wp2_with fail
  go_ret
  have h := HH.out
  refine ⟨rfl, _, ⟨at2.setCell 2 _, own2.fr (X := fun k => k = W) ((Fr.refl _ u2).setCell W 2 _ (fun _ => rfl)) (fun k hk hx => off2 (by rw [hk, hx])), off2, h.low, h.high, ?_⟩, st2.1.setCell W 2 _ (fun _ => .inl rfl), st2.2⟩
  exact HL.out
theorem put_any2 (w : World) (W : Nat) (lim : Int) (v : Value) (zs : List Int) (err : Int) (a b : Option Addr) (n c m d : Nat) (hs bd : List Int) (h : WSt w W lim v zs err)
    (hx : BIn w (.slice a n c) hs) (hy : BIn w (.slice b m d) bd) (ox : Apart W v (.slice a n c)) (oy : bd ≠ [] → Apart W v (.slice b m d)) (hn : n ≤ 1099511627776) (hm : m ≤ 1099511627776) :
    Calls Try.prog 130 #[.pointer (some ⟨W, 0, none⟩), .slice a n c, .slice b m d] w (Wrote w W lim v (putZ lim err zs (hs ++ bd)) (putE lim err zs (hs ++ bd).length)) := by
  obtain ⟨_, _, e1, _⟩ := id hx
  obtain ⟨_, _, e2, _⟩ := id hy
  have hnl : n = hs.length := by cases e1; rfl
  have hml : m = bd.length := by cases e2; rfl
  have hl : (hs ++ bd).length = n + m := by rw [List.length_append, hnl, hml]
  unfold putZ
  rw [hl]
  unfold putE
  by_cases he : err = 0
  · subst he
    simp only [ne_eq, not_true_eq_false, if_false]
    by_cases hlim : lim < (zs.length : Int) + ((n + m : Nat) : Int)
    · rw [if_pos hlim]
      rw [if_neg (by decide)]
      exact put_long w W lim v zs a b n c m d h hn hm hlim
    · rw [if_neg hlim]
      rw [if_pos rfl]
      exact put_ok2 w W lim v zs a b n c m d hs bd h hx hy ox oy (by omega)
  · rw [if_pos he, if_neg he]
    exact (put_err w W lim v zs err a b n c m d h he).mono fun e w' ⟨h1, h2⟩ => by subst h2; exact ⟨h1, v, h, Step.refl _ _ _⟩
theorem put_after2 (w W1 : World) (W : Nat) (lim : Int) (v : Value) (zs : List Int) (err : Int) (a b : Option Addr) (n c m d : Nat) (hs bd : List Int) (hb : Below w.heap.size w W1) (h : WSt w W lim v zs err)
    (hx : BIn W1 (.slice a n c) hs) (hy : BIn W1 (.slice b m d) bd) (ox : NewB w (.slice a n c)) (oy : bd ≠ [] → Apart W v (.slice b m d)) (hn : n ≤ 1099511627776) (hm : m ≤ 1099511627776) :
    Calls Try.prog 130 #[.pointer (some ⟨W, 0, none⟩), .slice a n c, .slice b m d] W1 (Wrote w W lim v (putZ lim err zs (hs ++ bd)) (putE lim err zs (hs ++ bd).length)) := by
  have hlt := h.lt
  have hol := h.own.lt
  have new : ∀ x, NewB w x → Apart W v x := fun x hx k hk hX => by
    have := hx k hk
    rcases hX with rfl | hX
    · omega
    · have := hol k hX
      omega
  refine (put_any2 W1 W lim v zs err a b n c m d hs bd (h.below hb) hx hy (new _ ox) oy hn hm).mono fun e w' h => Wrote.pre hb h
theorem bytes_any2 (w : World) (W : Nat) (lim : Int) (v : Value) (zs : List Int) (err : Int) (a : Option Addr) (m c : Nat) (bd : List Int) (hb : BIn w (.slice a m c) bd) (ho : bd ≠ [] → Apart W v (.slice a m c)) (hm : m ≤ 1099511627776) (h : WSt w W lim v zs err) :
    Calls Try.prog 74 #[.pointer (some ⟨W, 0, none⟩), .slice a m c] w (Wrote w W lim v (putZ lim err zs (numB m ++ bd)) (putE lim err zs (numB m ++ bd).length)) := by
  have C := hide (number_any w m (by omega) (by omega))
  have hk := nb_le m (by omega)
  have H := hide (fun W1 (hb1 : Below w.heap.size w W1) F (hF : w.heap.size ≤ F) (hx : BIn W1 (.slice (some ⟨F, 0, none⟩) (nb m + 1) 9) (numB m)) => put_after2 w W1 W lim v zs err (some ⟨F, 0, none⟩) a (nb m + 1) 9 m c (numB m) bd hb1 h hx (hb.below hb1) (newB_at w F 0 _ _ hF) ho (by omega) hm)
  generalize putE lim err zs (numB m ++ bd).length = E at H ⊢
  generalize putZ lim err zs (numB m ++ bd) = Z at H ⊢
  clear h hk hb ho
  go_enter Try.func74, Try.ntmps74
  go_wp2_with (first | ((go_at_call 131; refine (C.out).mono ?_; rintro e w1 ⟨F, rfl, hF, hx, hb⟩; have HX := hide hx; clear hx)) | ((go_at_call 130; refine (H.out _ hb _ hF HX.out).mono ?_; rintro e w2 ⟨rfl, hs⟩; have HS := hide hs; clear hs)))
  go_ret
  exact ⟨rfl, HS.out⟩
theorem puts_bag2 (w0 w : World) (l : List Thg) (W : Nat) (lim : Int) (v : Value) (ys : List Int) (t : Td) (va : Option Addr) (vn vc : Nat) (zs : List Int) (h : Bag w0 w (wtr W lim v ys 0 :: l)) (hk : 0 ≤ t.kd ∧ t.kd ≤ 7) (hn : t.kd = 0 → 0 ≤ t.n)
    (ht : Wf w t va vn vc zs) (hap : zs ≠ [] → Apart W v (.slice va vn vc)) (hs : zs.length ≤ 1099511627776) (hl : ((ys.length + (form t zs).length : Nat) : Int) ≤ lim) :
    Calls Try.prog 21 #[.pointer (some ⟨W, 0, none⟩), .agg t.cells.toArray] w (Ans 0 (Put w0 l W lim (ys ++ form t zs))) := by
  have hb := PW_below w t
  have hB := h.more hb
  have hl' : ∀ news : List Int, news = form t zs → putE lim 0 ys news.length = 0 ∧ putZ lim 0 ys news = ys ++ news := fun news e => by
    subst e
    have : putE lim 0 ys (form t zs).length = 0 := by
      unfold putE
      rw [if_neg (by simp), if_neg (by omega)]
    exact ⟨this, by unfold putZ; rw [if_pos this]⟩
  have fin : ∀ {f : FuncId} {args : Array Value} (news : List Int), news = form t zs → Calls Try.prog f args (PW w t) (Wrote (PW w t) W lim v (putZ lim 0 ys news) (putE lim 0 ys news.length)) → Calls Try.prog f args (PW w t) (Ans 0 (Put w0 l W lim (ys ++ form t zs))) := fun news e C => by
    obtain ⟨h1, h2⟩ := hl' news e
    rw [h1, h2] at C
    subst e
    exact (bw_of hB C).mono fun _ _ hh => hh
  have hlen := ht.len
  have ht' := ht.more hb (Below.refl _ _)
  obtain ⟨x, hx⟩ := Int.eq_ofNat_of_zero_le ht.u0
  have hu1 := ht.u1
  have hn1 := ht.n1
  obtain k | k | k | k | k | k | k | k : t.kd = 0 ∨ t.kd = 1 ∨ t.kd = 2 ∨ t.kd = 3 ∨ t.kd = 4 ∨ t.kd = 5 ∨ t.kd = 6 ∨ t.kd = 7 := by omega
  · exact puts0 w _ t va vn vc ht.hv k _ _ (fin (numB t.n) (by simp [form, k]) (num_any _ W lim v ys 0 t.n (hn k) (by omega) hB.head))
  · exact puts1 w _ t va vn vc ht.hv zs ht.bin k _ _ (fin (numB (st zs).size ++ tb (st zs)) (by simp [form, k, st_size, tb_st zs ht.rz]) (text_any _ W lim v ys 0 (st zs) (by rw [st_size]; omega) hB.head))
  · exact puts2 w _ t va vn vc ht.hv k _ _ (fin (numB vn ++ zs) (by simp [form, k, hlen]) (bytes_any2 _ W lim v ys 0 va vn vc zs ht'.bin hap (by omega) hB.head))
  · exact puts3 w _ t k _ _ (fin t.h (by simp [form, k]) (hash_any _ W lim v ys 0 t.h t.lh hB.head))
  · exact puts4 w _ t k _ _ (fin t.k (by simp [form, k]) (key_any _ W lim v ys 0 t.k t.lk hB.head))
  · exact puts5 w _ t va vn vc ht.hv k _ _ (fin (wordB t.u) (by simp [form, k]) (WirF.word_any _ W lim v ys 0 t.u ht.u0 ht.u1 hB.head))
  · exact puts6 w _ t x hx k _ _ (fin (wordB (canon x : Int)) (by simp [form, k, hx]) (wpace_any _ W lim v ys 0 x (by omega) hB.head))
  · exact puts7 w _ t va vn vc ht.hv k _ _ (fin (boolB t.is) (by simp [form, k]) (bool_any _ W lim v ys 0 t.is hB.head))
end WirBH
end Go.Proofs.Ythhnojnpjbklpaa

namespace Go.Proofs.Ythhnojnpjbklpaa
namespace WirAC
open Go.RowKit PaceA FltC
open BlkM WirM WirS WirA WirB WirC WirD WirE WirF WirG WirH WirI WirJ WirK WirL WirN WirO WirP WirQ WirR WirT WirU WirV WirW WirX WirY WirZ WirNA WirRT WirAA WirAB

/-- A list of ints, as it comes in. -/
structure KIn (w : World) (a : Option Addr) (n : Nat) (ks : List Int) : Prop where
  cell : ∀ i, i < n → ∃ B o, a = some ⟨B, o, none⟩ ∧ B < w.heap.size ∧ ∀ i, i < n → w.cell? ⟨B, o + i, none⟩ = some (.int .i64 (ks.getD i 0))
theorem again_any (w0 w : World) (l : List Thg) (R : Nat) (a : Option Addr) (c : Nat) (bs : List Int) (at' W : Nat) (lim : Int) (v : Value) (k : Int) (h0 : 0 ≤ k) (h8 : k < 8) (h : Bag w0 w (rdr R a c bs at' 0 0 :: wtr W lim v (bs.take at') 0 :: l)) (hl : (bs.length : Int) ≤ lim) :
    Calls Try.prog 47 #[.pointer (some ⟨R, 0, none⟩), .pointer (some ⟨W, 0, none⟩), .int .i64 k] w (Ag w0 l R a c bs at' W lim) := by
  obtain rfl | rfl | rfl | rfl | rfl | rfl | rfl | rfl : k = 0 ∨ k = 1 ∨ k = 2 ∨ k = 3 ∨ k = 4 ∨ k = 5 ∨ k = 6 ∨ k = 7 := by omega
  · exact again0 w0 w l R a c bs at' W lim v h hl
  · exact again1 w0 w l R a c bs at' W lim v h hl
  · exact again2 w0 w l R a c bs at' W lim v h hl
  · exact again3 w0 w l R a c bs at' W lim v h hl
  · exact again4 w0 w l R a c bs at' W lim v h hl
  · exact again5 w0 w l R a c bs at' W lim v h hl
  · exact again6 w0 w l R a c bs at' W lim v h hl
  · exact again7 w0 w l R a c bs at' W lim v h hl
theorem slH (a : Option Addr) (len cap m : Nat) (h : m ≤ cap) (Y : World) : (Instr.sliceAt 32 (.slice a len cap) none (some (.int .i64 (m : Int))) none).run Try.prog Y = .ok (.slice (sa a cap 0) m (cap - 0)) Y := by
  have hu : Try.prog.underlying 32 = some (.slice (Try.prog.elem 32)) := by kernel_rfl
  rw [run_sliceAt_slice Y 32 _ _ _ _ hu, run_slice_h Y 32 a len cap hu .i64 (m : Int) (by omega) (by omega)]
  have hs : (sizeOf (Try.prog.elem 32)).run Try.prog Y = .ok 1 Y := by kernel_rfl
  rw [hs]
  simp [sliced, sa]
def MidQ (w : World) (bs : List Int) (R : Nat) (a : Option Addr) (c W kn : Nat) (i : Value) (U : World) : Prop :=
  ∃ (k at' : Nat) (v : Value), k ≤ kn ∧ i = .int .i64 (k : Int) ∧ at' ≤ bs.length ∧ Bag w U [rdr R a c bs at' 0 0, wtr W 1048576 v (bs.take at') 0]
set_option maxHeartbeats 2000000 in
theorem one_any (w : World) (b : Option Addr) (n c : Nat) (bs : List Int) (hb : BIn w (.slice b n c) bs) (hr : rng bs) (ka : Option Addr) (kn kc : Nat) (ks : List Int) (hk : KIn w ka kn ks) :
    Calls Try.prog 8 #[.slice b n c, .slice ka kn kc] w fun e w' => e = .returned (.bool true) ∧ Below w.heap.size w w' := by
  have hn : n = bs.length := by
    obtain ⟨_, _, e, _⟩ := hb
    cases e
    rfl
  have HB := WirS.hide hb
  have HR := WirS.hide hr
  have HK := WirS.hide hk
  clear hb hr hk
  by_cases hbig : 600 < n
  · have hbi : (600 : Int) < (n : Int) := by omega
    go_enter Try.func8, Try.ntmps8
    go_wp2_with ((go_at_call 6; refine (known_any w).mono ?_; rintro e w1 ⟨rfl, h1⟩; have H1 := WirS.hide h1; clear h1))
    go_ret
    exact ⟨rfl, H1.out⟩
  by_cases hkn : 30 < kn
  · have hbi : ¬ (600 : Int) < (n : Int) := by omega
    have hki : (30 : Int) < (kn : Int) := by omega
    go_enter Try.func8, Try.ntmps8
    go_wp2_with ((go_at_call 6; refine (known_any w).mono ?_; rintro e w1 ⟨rfl, h1⟩; have H1 := WirS.hide h1; clear h1))
    go_ret
    exact ⟨rfl, H1.out⟩
  have hbi : ¬ (600 : Int) < (n : Int) := by omega
  have hki : ¬ (30 : Int) < (kn : Int) := by omega
  have HN := WirS.hide hn
  have HN6 := WirS.hide hbig
  clear hbig hkn hn
  go_enter Try.func8, Try.ntmps8
  go_upto_region 4 with ((go_at_call 6; refine (known_any w).mono ?_; rintro e w1 ⟨rfl, h1⟩; have H1 := WirS.hide (Bag.nil h1); clear h1))
  go_upto_region 5 with ((go_at_call 28; refine (newReader_any _ b n c bs (HB.out.below H1.out.low) HR.out (by have := HN6.out; omega)).mono ?_; rintro e w2 ⟨R, a, c2, rfl, hR, hs, hnw, hb2⟩; have H2 := WirS.hide (bag_rdr H1.out hR hs hnw hb2); clear hR hs hnw hb2 H1))
  go_upto_region 9 with ((go_at_call 18; refine (new_any _ 1048576 (by omega) (by omega)).mono ?_; rintro e w3 ⟨W, rfl, hW, hs, hb3⟩; have H3 := WirS.hide (bag_wtr H2.out hW hs (newB_nil _ _ _) hb3).swap; clear hW hs hb3 H2))
  go_loopw [9] (fun i wr => MidQ w bs R a c2 W kn i wr) (fun i _ => kn - (intOf i).toNat)
  case atStart => exact ⟨0, 0, _, Nat.zero_le _, rfl, Nat.zero_le _, H3.out⟩
  case round =>
    clear H3
    obtain ⟨k, at', v, hk, rfl, hat, hbag⟩ := hrel
    have HBg := WirS.hide hbag
    by_cases hlt : k < kn
    · obtain ⟨B, o, eka, hB, hcell⟩ := HK.out.cell k hlt
      have ck := (HBg.out.low.cell (p := ⟨B, o + k, none⟩) hB).trans (hcell k hlt)
      generalize ks.getD k 0 = q at ck
      have hpr := KitB.pick_range q 8 (by omega)
      have HP := WirS.hide (fun U => KitB.pick_any U q 8 (by omega) (by omega))
      generalize KitB.pick q 8 = g at hpr HP
      have HG := WirS.hide hpr
      subst eka
      clear hbag hcell hB hpr
      go_upto_region 12 with ((go_at_call 46; refine (HP.out _).mono ?_; rintro e u ⟨rfl, rfl⟩))
      refine wp_region_lit ?_
      refine sV (.pointer (some ⟨R, 0, none⟩)) (wr) (by kernel_rfl) (by kernel_rfl) ?_
      simp only [Act.put, List.setIfInBounds_toArray, List.set_cons_succ, List.set_cons_zero]
      refine sV (.pointer (some ⟨W, 0, none⟩)) (wr) (by kernel_rfl) (by kernel_rfl) ?_
      simp only [Act.put, List.setIfInBounds_toArray, List.set_cons_succ, List.set_cons_zero]
      refine sV (.int .i64 g) (wr) (by kernel_rfl) (by kernel_rfl) ?_
      simp only [Act.put, List.setIfInBounds_toArray, List.set_cons_succ, List.set_cons_zero]
      refine sCx (by kernel_rfl) (by kernel_rfl) (again_any w wr [] R a c2 bs at' W 1048576 v g HG.out.1 HG.out.2 HBg.out (by have := HN6.out; have := HN.out; omega)) ?_
      rintro e u (⟨rfl, p, v', h1, h2, hb⟩ | ⟨rfl, p, fe, fa, hfe, hb⟩)
      · refine ⟨_, rfl, ?_⟩
        simp only [Act.put, List.setIfInBounds_toArray, List.set_cons_succ, List.set_cons_zero]
        have HU := WirS.hide hb
        have HPL := WirS.hide h2
        clear hb HBg HP ck
        go_upto_region 15 with ((go_at_call 25; refine (done_ok _ W 1048576 v' _ HU.out.swap.head).mono ?_; rintro e u2 ⟨da, dn, dc, rfl, ho, hnw, hb⟩; have HU2 := WirS.hide (bag_binb (bag_own HU.out ho hnw hb)).swap; have HD := WirS.hide ho.bin; clear ho hnw hb))
        have hlp : (bs.take p).length = p := by have := HPL.out; rw [List.length_take]; omega
        have hdn : dn = p := by
          obtain ⟨_, _, e, _⟩ := HD.out
          cases e
          exact hlp
        subst hdn
        have hRest := WirS.hide (show Calls Try.prog 31 #[.pointer (some ⟨R, 0, none⟩)] u2 (BR w _ R a c2 bs (.int .i64 ((n : Int) - (dn : Int))) dn 0 0) from by
          have := br_rest HU2.out
          rwa [show restN bs dn 0 = (n : Int) - (dn : Int) by unfold restN; rw [if_pos rfl, HN.out]] at this)
        have hsum : (dn : Int) + ((n : Int) - (dn : Int)) = (n : Int) := by omega
        have hcn : n ≤ c := by
          obtain ⟨_, _, e, hc, _⟩ := HB.out
          cases e
          exact hc
        have hsl := slH b n c dn (by have := HPL.out; have := HN.out; omega)
        have HS := WirS.hide (fun U (hU : Bag w U [rdr R a c2 bs dn 0 0, binb (.slice da dn dc) (bs.take dn), wtr W 1048576 v' (bs.take dn) 0]) => show Calls Try.prog 27 #[.slice da dn dc, .slice (sa b c 0) dn (c - 0)] U (fun e w' => e = .returned (.bool true) ∧ U = w') from (same_any U da (sa b c 0) dn dc dn (c - 0) (bs.take dn) (bs.take dn) hU.swap.head.1 (by
          have h5 := HB.out
          rw [HN.out] at h5
          have := bin_sub h5 0 dn (by have := HPL.out; omega)
          rw [List.drop_zero] at this
          exact this.below hU.low) (fun x hx => HR.out x (List.mem_of_mem_take hx)) (fun x hx => HR.out x (List.mem_of_mem_take hx))).mono fun _ _ ⟨h1, h2⟩ => ⟨by rw [h1]; simp, h2⟩)
        clear hlp hcn
        go_wp2_with (first | ((go_at_call 31; refine (hRest.out).mono ?_; rintro e u3 ⟨rfl, hb⟩; have HU3 := WirS.hide hb; clear hb)) | ((go_at_call 27; refine (HS.out _ HU3.out).mono ?_; rintro e u4 ⟨rfl, rfl⟩)))
        go_roundw
        case rel => exact ⟨k + 1, dn, v', by omega, by go_num, HPL.out, HU3.out.swap.drop⟩
        case measure => simp [intOf]; omega
      · refine ⟨_, rfl, ?_⟩
        simp only [Act.put, List.setIfInBounds_toArray, List.set_cons_succ, List.set_cons_zero]
        have HU := WirS.hide hb
        have E1 : endE bs p fe = fe := (endF bs p fe fa hfe).1
        have HE := WirS.hide (show Calls Try.prog 33 #[.pointer (some ⟨R, 0, none⟩)] u (BR w [] R a c2 bs (.agg #[.int .i64 (endE bs p fe), .int .i64 (endA bs p fe fa)]) p fe fa) from br_end hb)
        rw [E1] at HE
        generalize endA bs p fe fa = fb at HE
        have hq : (fe == 0) = false := by simpa using hfe
        have hq2 : (fe != 0) = true := by simpa using hfe
        have hfd : ∀ Y : World, (Instr.field 55 (.agg #[.int .i64 fe, .int .i64 fb]) 0).run Try.prog Y = .ok (.int .i64 fe) Y := fun Y => by kernel_rfl
        clear hb HBg HP ck E1 hfe
        go_wp2_with ((go_at_call 33; refine (HE.out).mono ?_; rintro e u2 ⟨rfl, hb⟩; have HU2 := WirS.hide hb; clear hb))
        go_ret
        exact ⟨rfl, HU2.out.low⟩
    · clear hbag
      go_wp2_with fail
      go_ret
      exact ⟨rfl, HBg.out.low⟩
theorem k_some (W : World) (x : Addr) (l c : Nat) (zs : List Int) (hl : l ≤ c) (hz : zs.length = c) (hcell : ∀ i, i < zs.length → W.cell? (x.add i) = some (.int .i64 (zs.getD i 0))) : KIn W (some x) l zs := ⟨fun j hj => by
  obtain ⟨b, off, rfl, hc⟩ := Go.ints_at hcell (by omega)
  refine ⟨b, off, rfl, ?_, fun i hi => hc i (by omega)⟩
  have h0 := hc 0 (by omega)
  unfold World.cell? at h0
  rcases Nat.lt_or_ge b W.heap.size with h | h
  · exact h
  · have : W.heap[b]? = none := by simp [h]
    simp [this] at h0⟩
theorem ints_in {H : Type} {enc : TypeId × Value → H} {W : World} {fuel : Nat} {cs : List Value} {x : DataW H × List MemPlace} (h : DataW.trod enc Try.prog W 0 (fun _ => true) true fuel 77 cs = some x) :
    ∃ va vn vc zs, cs = [.slice va vn vc] ∧ KIn W va vn zs := by
  rcases Go.ChangeShapes.open_ints Try.underlying77 Try.underlying3 (by kernel_rfl) h with ⟨hcs, _⟩ | ⟨a, l, c, zs, hcs, _, hl, hm, hz, _, hcell, hwz⟩
  · exact ⟨none, 0, 0, [], hcs, ⟨fun i hi => by omega⟩⟩
  · exact ⟨some a, l, c, zs, hcs, k_some W a l c zs hl (by simpa using hz) hcell⟩
theorem one_row (w : World) (b : Option Addr) (n c : Nat) (bs : List Int) (ka : Option Addr) (kn kc : Nat) (ks : List Int) (hb : BIn w (.slice b n c) bs ∧ rng bs) (hk : KIn w ka kn ks) :
    Calls Try.prog 8 #[.slice b n c, .slice ka kn kc] w fun e w' => e = .returned (.bool true) ∧ Below w.heap.size w w' := one_any w b n c bs hb.1 hb.2 ka kn kc ks hk
end WirAC
end Go.Proofs.Ythhnojnpjbklpaa

namespace Go.Proofs.Ythhnojnpjbklpaa
namespace WirBG
open Go.RowKit PaceA FltC
open BlkM WirM WirS WirA WirB WirC WirD WirE WirF WirG WirH WirI WirJ WirK WirL WirN WirO WirP WirQ WirR WirT WirU WirV WirW WirX WirY WirZ WirNA WirRT WirAA WirAB WirBE WirBB WirBC WirBA WirBD WirBF WirBH WirAC

theorem fault_neq (e a' f b' : Int) (W : World) : (binOp .neq 55 (.agg #[.int .i64 e, .int .i64 a']) (.agg #[.int .i64 f, .int .i64 b'])).run Try.prog W = .ok (.bool (!(e == f && a' == b'))) W := by
  have p0 : ∀ (x y : Int) (V : World), (part 26 #[.int .i64 x, .int .i64 y] 0).run Try.prog V = .ok (.int .i64 x) V := fun x y V => by kernel_rfl
  have p1 : ∀ (x y : Int) (V : World), (part 3 #[.int .i64 x, .int .i64 y] 1).run Try.prog V = .ok (.int .i64 y) V := fun x y V => by kernel_rfl
  have k1 : ∀ d : Nat, (Op.equalIn (d + 2) 55 (.agg #[.int .i64 e, .int .i64 a']) (.agg #[.int .i64 f, .int .i64 b'])).run Try.prog W = .ok (e == f && a' == b') W := fun d => by
    simp [Op.equalIn, run_underlying Try.underlying55, run_underlying Try.underlying26, run_underlying Try.underlying3, p0, p1]
    by_cases h1 : e = f <;> by_cases h2 : a' = b' <;> simp [h1, h2]
  simp only [binOp]
  simp [Op.equal, Op.maxDepth, k1 9998]
/-- Every number of these things is none below 0. -/
def Nums (l : List Te) : Prop := ∀ x ∈ l, x.t.kd = 0 → 0 ≤ x.t.n
theorem Nums.succ {ts : List Te} {k : Nat} {x : Te} (h : Nums (ts.take k)) (hx : ts[k]? = some x) (hn : x.t.kd = 0 → 0 ≤ x.t.n) : Nums (ts.take (k + 1)) := by
  rw [List.take_add_one, hx]
  intro y hy
  rcases List.mem_append.1 hy with hy | hy
  · exact h y hy
  · simp at hy
    subst hy
    exact hn
def Mid1 (w : World) (ts : List Te) (W ln : Nat) (i : Value) (U : World) : Prop :=
  ∃ (k : Nat) (v : Value), k ≤ ln ∧ i = .int .i64 (k : Int) ∧ Nums (ts.take k) ∧ Bag w U [wtr W 1048576 v (fms (ts.take k)) 0]
def Mid2 (w : World) (ts : List Te) (R : Nat) (a : Option Addr) (c : Nat) (b : Value) (ln : Nat) (i : Value) (U : World) : Prop :=
  ∃ k : Nat, k ≤ ln ∧ i = .int .i64 (k : Int) ∧ Bag w U [rdr R a c ((fms ts).take (fms ts).length) (fms (ts.take k)).length 0 0, binb b (fms ts)]
def Mid3 (w : World) (ts : List Te) (R : Nat) (a : Option Addr) (c cut : Nat) (ln : Nat) (i : Value) (U : World) : Prop :=
  ∃ (k p : Nat) (fe fa : Int), k ≤ ln ∧ i = .int .i64 (k : Int) ∧ ((fe = 0 ∧ fa = 0 ∧ p = (fms (ts.take k)).length ∧ p ≤ cut) ∨ (fe = 6 ∧ fa ≤ (cut : Int))) ∧ Bag w U [rdr R a c ((fms ts).take cut) p fe fa]
/-- A thing is written: what is nothing writes nothing. -/
theorem puts_fm (w0 w : World) (W : Nat) (lim : Int) (v : Value) (ys : List Int) (x : Te) (h : Bag w0 w [wtr W lim v ys 0]) (ht : Wf w0 x.t x.va x.vn x.vc x.zs) (hs : x.vn ≤ 300) (hn : x.t.kd = 0 → 0 ≤ x.t.n)
    (hl : ((ys.length + (fm x).length : Nat) : Int) ≤ lim) :
    Calls Try.prog 21 #[.pointer (some ⟨W, 0, none⟩), .agg x.t.cells.toArray] w (Ans 0 (Put w0 [] W lim (ys ++ fm x))) := by
  have hlen := ht.len
  by_cases hk : 0 ≤ x.t.kd ∧ x.t.kd ≤ 7
  · have e : fm x = form x.t x.zs := by unfold fm; rw [if_pos hk]
    rw [e] at hl ⊢
    refine puts_bag2 w0 w [] W lim v ys x.t x.va x.vn x.vc x.zs h hk hn (ht.more h.low (Below.refl _ _)) (fun hne k hkk hX => ?_) (by omega) hl
    obtain ⟨a', c', e1, _, hz⟩ := ht.bin
    have hva : x.va = a' := by injection e1
    rw [hva] at hkk
    obtain ⟨B, o, e2, hB, _⟩ := hz hne
    rw [e2] at hkk
    have hkB : k = B := by simpa [Value.ownBlock] using hkk.symm
    have := (h.all (wtr W lim v ys 0) (by simp)).2 k hX
    omega
  · have e : fm x = [] := by unfold fm; rw [if_neg hk]
    rw [e, List.append_nil]
    exact (putsE w _ x.t hk).mono fun _ _ ⟨h1, h2⟩ => ⟨h1, v, by rw [h2]; exact h.more (PW_below _ _)⟩
set_option maxHeartbeats 4000000 in
theorem back_law (w : World) (la : Option Addr) (ln lc : Nat) (ts : List Te) (hL : LIn w la ln ts) (q : Int) :
    Calls Try.prog 7 #[.slice la ln lc, .int .i64 q] w fun e w' => e = .returned (.bool true) ∧ Below w.heap.size w w' := by
  have HL := WirS.hide hL
  clear hL
  cases hlong : isLong ts with
  | true =>
    have HG := WirS.hide hlong
    clear hlong
    go_enter Try.func7, Try.ntmps7
    go_wp2_with (first | (go_at_call 6; refine (known_any w).mono ?_; rintro e w1 ⟨rfl, h1⟩; have H1 := WirS.hide h1; clear h1) | (go_at_call 16; refine (show Calls _ _ _ _ (fun e w' => e = .returned (.bool true) ∧ w' = _) from HG.out ▸ long_any _ la ln lc ts (HL.out.below H1.out)).mono ?_; rintro e w2 ⟨rfl, rfl⟩))
    go_ret
    exact ⟨rfl, H1.out⟩
  | false =>
    obtain ⟨hln, hvs⟩ := long_no hlong
    have HG := WirS.hide hlong
    have HV := WirS.hide hvs
    have hlt := HL.out.len
    have hl30 : ln ≤ 30 := by omega
    have HT := WirS.hide (show (fms ts).length ≤ 9270 from Nat.le_trans (fms_len ts (fun x hx => fm_len x (by have h1 := (HL.out.wf x hx).1.len; have h2 := HV.out x hx; omega) (HL.out.wf x hx).1.n1)) (by omega))
    clear hlong hvs hln hlt
    go_enter Try.func7, Try.ntmps7
    go_upto_region 4 with (first | (go_at_call 6; refine (known_any w).mono ?_; rintro e w1 ⟨rfl, h1⟩; have H1 := WirS.hide h1; clear h1) | (go_at_call 16; refine (show Calls _ _ _ _ (fun e w' => e = .returned (.bool false) ∧ w' = _) from HG.out ▸ long_any _ la ln lc ts (HL.out.below H1.out)).mono ?_; rintro e w2 ⟨rfl, rfl⟩))
    have HB1 := WirS.hide (Bag.nil H1.out)
    clear H1
    go_upto_region 8 with ((go_at_call 18; refine (new_any _ 1048576 (by omega) (by omega)).mono ?_; rintro e w3 ⟨W, rfl, hW, hs, hb3⟩; have H3 := WirS.hide (bag_wtr HB1.out hW hs (newB_nil _ _ _) hb3); clear hW hs hb3 HB1))
    go_loopw [8] (fun i wr => Mid1 w ts W ln i wr) (fun i _ => ln - (intOf i).toNat)
    case atStart => exact ⟨0, _, Nat.zero_le _, rfl, (fun x hx => by simp at hx), H3.out⟩
    case round =>
      clear H3
      obtain ⟨k, v, hk, rfl, hnum, hbag⟩ := hrel
      have HBg := WirS.hide hbag
      have HN := WirS.hide hnum
      clear hbag hnum
      by_cases hlt : k < ln
      · obtain ⟨x, B, o, hx, hmem, rfl, hB, hr⟩ := (HL.out.below HBg.out.low).cell hlt
        have hwf := (HL.out.wf x hmem).1
        have hr0 : wr.cell? ⟨B, o + k * 41, none⟩ = some (.int .i64 x.t.kd) := hr 0 _ rfl
        have hr1 : wr.cell? ⟨B, o + k * 41 + 1, none⟩ = some (.int .i64 x.t.n) := hr 1 _ rfl
        have hkl : (k : Int) < (ln : Int) := by omega
        have HR := WirS.hide hr
        have HX := WirS.hide hx
        have HW := WirS.hide hwf
        have HS := WirS.hide (HV.out x hmem)
        have HM := WirS.hide hmem
        clear hr hx hwf hmem
        by_cases hneg : x.t.kd = 0 ∧ x.t.n < 0
        · obtain ⟨h1, h2⟩ := hneg
          rw [h1] at hr0
          go_wp2_with fail
          go_ret
          exact ⟨rfl, HBg.out.low⟩
        · have HNN := WirS.hide (show x.t.kd = 0 → 0 ≤ x.t.n from fun h => Int.not_lt.1 fun h2 => hneg ⟨h, h2⟩)
          have HLE := WirS.hide (show (((fms (ts.take k)).length + (fm x).length : Nat) : Int) ≤ 1048576 by
            have h1 := fms_take_le ts (k + 1)
            rw [fms_succ HX.out, List.length_append] at h1
            have := HT.out
            omega)
          rcases (show (x.t.kd == 0) = false ∨ (x.t.kd = 0 ∧ ¬ x.t.n < 0) from (by
            by_cases h : x.t.kd = 0
            · exact .inr ⟨h, fun h2 => hneg ⟨h, h2⟩⟩
            · exact .inl (by simpa using h))) with hz | ⟨hz, hnn⟩
          · clear hneg
            go_upto_region 12 with fail
            refine wp_region_lit ?_
            refine sV (.pointer (some ⟨W, 0, none⟩)) (wr) (by kernel_rfl) (by kernel_rfl) ?_
            simp only [Act.put, List.setIfInBounds_toArray, List.set_cons_succ, List.set_cons_zero]
            refine sV (.slice (some ⟨B, o, none⟩) ln lc) (wr) (by kernel_rfl) (by kernel_rfl) ?_
            simp only [Act.put, List.setIfInBounds_toArray, List.set_cons_succ, List.set_cons_zero]
            refine sV (.int .i64 (k : Int)) (wr) (by kernel_rfl) (by kernel_rfl) ?_
            simp only [Act.put, List.setIfInBounds_toArray, List.set_cons_succ, List.set_cons_zero]
            refine sV (.pointer (some ⟨B, o + k * 41, none⟩)) wr (by kernel_rfl) (opX _ _ _ _ B o ln lc k rfl (by kernel_rfl) (by kernel_rfl) hlt wr) ?_
            simp only [Act.put, List.setIfInBounds_toArray, List.set_cons_succ, List.set_cons_zero]
            refine wpList_load_mid (by rfl) _ _ (by rfl) B (o + k * 41) (by kernel_rfl) x.t.cells _ HR.out Try.underlying39 (by rfl) (by rw [x.t.len]; kernel_rfl) ?_
            simp only [Act.put, List.setIfInBounds_toArray, List.set_cons_succ, List.set_cons_zero]
            refine sC (by kernel_rfl) (by kernel_rfl) (puts_fm w wr W 1048576 v _ x HBg.out HW.out HS.out HNN.out HLE.out) ?_
            rintro u ⟨v', hb'⟩
            simp only [Act.put, List.setIfInBounds_toArray, List.set_cons_succ, List.set_cons_zero]
            have HB' := WirS.hide hb'
            clear hb' hr0 hr1
            refine sV (.bool false) (u) (by kernel_rfl) (by kernel_rfl) ?_
            simp only [Act.put, List.setIfInBounds_toArray, List.set_cons_succ, List.set_cons_zero]
            go_wp2_with fail
            go_roundw
            case rel => exact ⟨k + 1, v', by omega, by go_num, HN.out.succ HX.out HNN.out, by rw [fms_succ HX.out]; exact HB'.out⟩
            case measure => simp [intOf]; omega
          · clear hneg
            rw [hz] at hr0
            clear hz
            go_upto_region 12 with fail
            refine wp_region_lit ?_
            refine sV (.pointer (some ⟨W, 0, none⟩)) (wr) (by kernel_rfl) (by kernel_rfl) ?_
            simp only [Act.put, List.setIfInBounds_toArray, List.set_cons_succ, List.set_cons_zero]
            refine sV (.slice (some ⟨B, o, none⟩) ln lc) (wr) (by kernel_rfl) (by kernel_rfl) ?_
            simp only [Act.put, List.setIfInBounds_toArray, List.set_cons_succ, List.set_cons_zero]
            refine sV (.int .i64 (k : Int)) (wr) (by kernel_rfl) (by kernel_rfl) ?_
            simp only [Act.put, List.setIfInBounds_toArray, List.set_cons_succ, List.set_cons_zero]
            refine sV (.pointer (some ⟨B, o + k * 41, none⟩)) wr (by kernel_rfl) (opX _ _ _ _ B o ln lc k rfl (by kernel_rfl) (by kernel_rfl) hlt wr) ?_
            simp only [Act.put, List.setIfInBounds_toArray, List.set_cons_succ, List.set_cons_zero]
            refine wpList_load_mid (by rfl) _ _ (by rfl) B (o + k * 41) (by kernel_rfl) x.t.cells _ HR.out Try.underlying39 (by rfl) (by rw [x.t.len]; kernel_rfl) ?_
            simp only [Act.put, List.setIfInBounds_toArray, List.set_cons_succ, List.set_cons_zero]
            refine sC (by kernel_rfl) (by kernel_rfl) (puts_fm w wr W 1048576 v _ x HBg.out HW.out HS.out HNN.out HLE.out) ?_
            rintro u ⟨v', hb'⟩
            simp only [Act.put, List.setIfInBounds_toArray, List.set_cons_succ, List.set_cons_zero]
            have HB' := WirS.hide hb'
            clear hb' hr0 hr1
            refine sV (.bool false) (u) (by kernel_rfl) (by kernel_rfl) ?_
            simp only [Act.put, List.setIfInBounds_toArray, List.set_cons_succ, List.set_cons_zero]
            go_wp2_with fail
            go_roundw
            case rel => exact ⟨k + 1, v', by omega, by go_num, HN.out.succ HX.out HNN.out, by rw [fms_succ HX.out]; exact HB'.out⟩
            case measure => simp [intOf]; omega
      · obtain rfl : k = ln := by omega
        have htk : ts.take k = ts := List.take_of_length_le (by rw [HL.out.len]; exact Nat.le_refl _)
        have hb1 := HBg.out
        have hn1 := HN.out
        rw [htk] at hb1 hn1
        have HBs := WirS.hide hb1
        have HNs := WirS.hide hn1
        have HRg := WirS.hide (fms_rng ts (fun x hx => fm_rng x (HL.out.wf x hx).1.rz (HL.out.wf x hx).2.1 (HL.out.wf x hx).2.2 (by have h1 := (HL.out.wf x hx).1.len; have h2 := HV.out x hx; omega) (HL.out.wf x hx).1.n1))
        clear hb1 hn1 HN HBg htk
        go_upto_region 17 with ((go_at_call 25; refine (done_ok _ W 1048576 v _ HBs.out.head).mono ?_; rintro e u2 ⟨da, dn, dc, rfl, ho, hnw, hb⟩; have HU := WirS.hide (bag_binb (bag_own HBs.out ho hnw hb)); clear ho hnw hb HBs))
        have hdn : dn = (fms ts).length := by
          obtain ⟨_, _, e, _⟩ := HU.out.head.1
          injection e
        have HDN := WirS.hide hdn
        have HDL := WirS.hide (show dn ≤ 9270 from hdn ▸ HT.out)
        clear hdn
        go_upto_region 19 with ((go_at_call 28; refine (newReader_any _ da dn dc (fms ts) HU.out.head.1 HRg.out (by have := HDL.out; omega)).mono ?_; rintro e u3 ⟨R, ra, rc, rfl, hR, hs, hnw, hb2⟩; have HR0 := WirS.hide (turn3 (bag_rdr HU.out hR hs hnw hb2)).drop.swap; clear hR hs hnw hb2))
        clear HU
        go_loopw [12] (fun i wr => Mid2 w ts R ra rc (.slice da dn dc) k i wr) (fun i _ => k - (intOf i).toNat)
        case atStart => exact ⟨0, Nat.zero_le _, rfl, by rw [List.take_length]; exact HR0.out⟩
        case round =>
          clear HR0
          obtain ⟨j, hj, rfl, hbag⟩ := hrel
          have HBg := WirS.hide hbag
          clear hbag
          by_cases hjl : j < k
          · obtain ⟨x, B, o, hx, hmem, rfl, hB, hr⟩ := (HL.out.below HBg.out.low).cell hjl
            have hkl : (j : Int) < (k : Int) := by omega
            have HR := WirS.hide hr
            have HC := WirS.hide (back_fm w _ _ R ra rc (fms ts) _ _ (fms ts).length x (HL.out.wf x hmem).1 (HV.out x hmem) (HNs.out x hmem) (fms_fits hx) (Nat.le_refl _) (fms_take_le ts (j + 1)) HBg.out)
            clear hr hx hmem
            go_upto_region 21 with fail
            refine wp_region_lit ?_
            refine sV (.pointer (some ⟨R, 0, none⟩)) (wr) (by kernel_rfl) (by kernel_rfl) ?_
            simp only [Act.put, List.setIfInBounds_toArray, List.set_cons_succ, List.set_cons_zero]
            refine sV (.slice (some ⟨B, o, none⟩) k lc) (wr) (by kernel_rfl) (by kernel_rfl) ?_
            simp only [Act.put, List.setIfInBounds_toArray, List.set_cons_succ, List.set_cons_zero]
            refine sV (.int .i64 (j : Int)) (wr) (by kernel_rfl) (by kernel_rfl) ?_
            simp only [Act.put, List.setIfInBounds_toArray, List.set_cons_succ, List.set_cons_zero]
            refine sV (.pointer (some ⟨B, o + j * 41, none⟩)) wr (by kernel_rfl) (opX _ _ _ _ B o k lc j rfl (by kernel_rfl) (by kernel_rfl) hjl wr) ?_
            simp only [Act.put, List.setIfInBounds_toArray, List.set_cons_succ, List.set_cons_zero]
            refine wpList_load_mid (by rfl) _ _ (by rfl) B (o + j * 41) (by kernel_rfl) x.t.cells _ HR.out Try.underlying39 (by rfl) (by rw [x.t.len]; kernel_rfl) ?_
            simp only [Act.put, List.setIfInBounds_toArray, List.set_cons_succ, List.set_cons_zero]
            refine sC (by kernel_rfl) (by kernel_rfl) HC.out ?_
            intro u hb'
            simp only [Act.put, List.setIfInBounds_toArray, List.set_cons_succ, List.set_cons_zero]
            have HB' := WirS.hide hb'
            clear hb' HC
            refine sV (.bool false) (u) (by kernel_rfl) (by kernel_rfl) ?_
            simp only [Act.put, List.setIfInBounds_toArray, List.set_cons_succ, List.set_cons_zero]
            go_wp2_with fail
            go_roundw
            case rel => exact ⟨j + 1, by omega, by go_num, HB'.out⟩
            case measure => simp [intOf]; omega
          · obtain rfl : j = k := by omega
            have htk : ts.take j = ts := List.take_of_length_le (by rw [HL.out.len]; exact Nat.le_refl _)
            have hb1 := HBg.out
            rw [htk, List.take_length] at hb1
            have HBz := WirS.hide hb1
            have HRest := WirS.hide (show ∀ U, Bag w U [rdr R ra rc (fms ts) (fms ts).length 0 0, binb (.slice da dn dc) (fms ts)] → Calls Try.prog 31 #[.pointer (some ⟨R, 0, none⟩)] U (BR w [binb (.slice da dn dc) (fms ts)] R ra rc (fms ts) (.int .i64 0) (fms ts).length 0 0) from fun U hU => by
              have := br_rest hU
              rwa [show restN (fms ts) (fms ts).length 0 = 0 by unfold restN; rw [if_pos rfl]; omega] at this)
            have HEnd := WirS.hide (show ∀ U, Bag w U [rdr R ra rc (fms ts) (fms ts).length 0 0, binb (.slice da dn dc) (fms ts)] → Calls Try.prog 33 #[.pointer (some ⟨R, 0, none⟩)] U (BR w [binb (.slice da dn dc) (fms ts)] R ra rc (fms ts) (.agg #[.int .i64 0, .int .i64 0]) (fms ts).length 0 0) from fun U hU => by
              have := br_end hU
              have hr : restN (fms ts) (fms ts).length 0 = 0 := by unfold restN; rw [if_pos rfl]; omega
              rwa [show endE (fms ts) (fms ts).length 0 = 0 by unfold endE; rw [hr]; rfl, show endA (fms ts) (fms ts).length 0 0 = 0 by unfold endA; rw [hr]; rfl] at this)
            have hne := fault_neq 0 0 0 0
            have heq := fault_eq 0 0 0 0
            clear hb1 htk HBg
            by_cases hz : dn = 0
            · have HZ := WirS.hide hz
              have hz2 : ((dn : Int) == 0) = true := by simp [hz]
              clear hz
              go_wp2_with (first | ((go_at_call 31; refine (HRest.out _ HBz.out).mono ?_; rintro e u4 ⟨rfl, hb⟩; clear HBz; have HBz := WirS.hide hb; clear hb)) | ((go_at_call 33; refine (HEnd.out _ HBz.out).mono ?_; rintro e u4 ⟨rfl, hb⟩; clear HBz; have HBz := WirS.hide hb; clear hb)))
              go_ret
              exact ⟨rfl, HBz.out.low⟩
            · have hz2 : ((dn : Int) == 0) = false := by simpa using hz
              have HP := WirS.hide (fun U => KitB.pick_any U q (dn : Int) (by omega) (by have := HDL.out; omega))
              have hpr := KitB.pick_range q (dn : Int) (by omega)
              generalize KitB.pick q (dn : Int) = g at HP hpr
              obtain ⟨cut, rfl⟩ := Int.eq_ofNat_of_zero_le hpr.1
              have HCut := WirS.hide (show cut < dn by omega)
              clear hz hpr
              go_upto_region 26 with (first | ((go_at_call 31; refine (HRest.out _ HBz.out).mono ?_; rintro e u4 ⟨rfl, hb⟩; clear HBz; have HBz := WirS.hide hb; clear hb)) | ((go_at_call 33; refine (HEnd.out _ HBz.out).mono ?_; rintro e u4 ⟨rfl, hb⟩; clear HBz; have HBz := WirS.hide hb; clear hb)) | ((go_at_call 46; refine (HP.out _).mono ?_; rintro e u4 ⟨rfl, rfl⟩)))
              have hcn : dn ≤ dc := by
                obtain ⟨_, _, e, hc, _⟩ := HBz.out.swap.head.1
                injection e with _ e1 e2
                omega
              have hsl := slH da dn dc cut (by have := HCut.out; omega)
              have HNR := WirS.hide (show ∀ U, Bag w U [rdr R ra rc (fms ts) (fms ts).length 0 0, binb (.slice da dn dc) (fms ts)] → Calls Try.prog 28 #[.slice (sa da dc 0) cut (dc - 0)] U (fun e w' => ∃ S sa' sc, e = .returned (.pointer (some ⟨S, 0, none⟩)) ∧ Bag w w' [rdr S sa' sc ((fms ts).take cut) 0 0 0]) from fun U hU => by
                have h5 := hU.swap.head.1
                rw [HDN.out] at h5
                have hsub := bin_sub h5 0 cut (by have := HCut.out; have := HDN.out; omega)
                rw [List.drop_zero] at hsub
                refine (newReader_any U _ cut _ _ hsub (fun y hy => HRg.out y (List.mem_of_mem_take hy)) (by have := HCut.out; have := HDL.out; omega)).mono fun e w' ⟨S, sa', sc, h1, h2, h3, h4, h6⟩ => ⟨S, sa', sc, h1, (bag_rdr hU h2 h3 h4 h6).swap.drop.swap.drop⟩)
              clear hcn
              go_upto_region 28 with ((go_at_call 28; refine (HNR.out _ HBz.out).mono ?_; rintro e u5 ⟨S, ya, yc, rfl, hb⟩; have H5 := WirS.hide hb; clear hb))
              clear HNR HRest HEnd hsl
              go_loopw [14] (fun i wr => Mid3 w ts S ya yc cut j i wr) (fun i _ => j - (intOf i).toNat)
              case atStart => exact ⟨0, 0, 0, 0, Nat.zero_le _, rfl, .inl ⟨rfl, rfl, rfl, Nat.zero_le _⟩, H5.out⟩
              case round =>
                clear H5
                obtain ⟨m, p, fe, fa, hm, rfl, hst, hbag⟩ := hrel
                have HBg := WirS.hide hbag
                have HST := WirS.hide (show St3 cut (fms (ts.take m)).length p fe fa from hst)
                clear hbag hst
                by_cases hml : m < j
                · obtain ⟨x, B, o, hx, hmem, rfl, hB, hr⟩ := (HL.out.below HBg.out.low).cell hml
                  have hkl : (m : Int) < (j : Int) := by omega
                  have HR := WirS.hide hr
                  have HC := WirS.hide (back_3 w _ _ S ya yc (fms ts) _ _ cut p fe fa x (HL.out.wf x hmem).1 (HV.out x hmem) (HNs.out x hmem) (fms_fits hx) (by have := HCut.out; have := HDN.out; omega) HST.out HBg.out)
                  clear hr hx hmem
                  go_upto_region 30 with fail
                  refine wp_region_lit ?_
                  refine sV (.pointer (some ⟨S, 0, none⟩)) (wr) (by kernel_rfl) (by kernel_rfl) ?_
                  simp only [Act.put, List.setIfInBounds_toArray, List.set_cons_succ, List.set_cons_zero]
                  refine sV (.slice (some ⟨B, o, none⟩) j lc) (wr) (by kernel_rfl) (by kernel_rfl) ?_
                  simp only [Act.put, List.setIfInBounds_toArray, List.set_cons_succ, List.set_cons_zero]
                  refine sV (.int .i64 (m : Int)) (wr) (by kernel_rfl) (by kernel_rfl) ?_
                  simp only [Act.put, List.setIfInBounds_toArray, List.set_cons_succ, List.set_cons_zero]
                  refine sV (.pointer (some ⟨B, o + m * 41, none⟩)) wr (by kernel_rfl) (opX _ _ _ _ B o j lc m rfl (by kernel_rfl) (by kernel_rfl) hml wr) ?_
                  simp only [Act.put, List.setIfInBounds_toArray, List.set_cons_succ, List.set_cons_zero]
                  refine wpList_load_mid (by rfl) _ _ (by rfl) B (o + m * 41) (by kernel_rfl) x.t.cells _ HR.out Try.underlying39 (by rfl) (by rw [x.t.len]; kernel_rfl) ?_
                  simp only [Act.put, List.setIfInBounds_toArray, List.set_cons_succ, List.set_cons_zero]
                  refine sCx (by kernel_rfl) (by kernel_rfl) HC.out ?_
                  rintro e u ⟨b, p', fe', fa', rfl, hb', hs'⟩
                  refine ⟨_, rfl, ?_⟩
                  simp only [Act.put, List.setIfInBounds_toArray, List.set_cons_succ, List.set_cons_zero]
                  have HB' := WirS.hide hb'
                  have HS' := WirS.hide hs'
                  clear hb' hs' HC
                  go_wp2_with fail
                  go_roundw
                  case rel => exact ⟨m + 1, p', fe', fa', by omega, by go_num, HS'.out, HB'.out⟩
                  case measure => simp [intOf]; omega
                · obtain rfl : m = j := by omega
                  have htk : ts.take m = ts := List.take_of_length_le (by rw [HL.out.len]; exact Nat.le_refl _)
                  have hst := HST.out
                  rw [htk] at hst
                  obtain ⟨rfl, hfa⟩ : fe = 6 ∧ fa ≤ (cut : Int) := by
                    rcases hst with ⟨_, _, h1, h2⟩ | h
                    · have := HCut.out
                      have := HDN.out
                      omega
                    · exact h
                  have h6 : (6 : Int) ≠ 0 := by decide
                  have HEnd := WirS.hide (show Calls Try.prog 33 #[.pointer (some ⟨S, 0, none⟩)] wr (BR w [] S ya yc ((fms ts).take cut) (.agg #[.int .i64 6, .int .i64 fa]) p 6 fa) from by
                    have := br_end HBg.out
                    rwa [(endF ((fms ts).take cut) p 6 fa h6).1, (endF ((fms ts).take cut) p 6 fa h6).2] at this)
                  have HRest := WirS.hide (show ∀ U, Bag w U [rdr S ya yc ((fms ts).take cut) p 6 fa] → Calls Try.prog 31 #[.pointer (some ⟨S, 0, none⟩)] U (BR w [] S ya yc ((fms ts).take cut) (.int .i64 0) p 6 fa) from fun U hU => by
                    have := br_rest hU
                    rwa [show restN ((fms ts).take cut) p 6 = 0 from rfl] at this)
                  clear htk hst h6
                  go_upto_region 32 with ((go_at_call 33; refine (HEnd.out).mono ?_; rintro e u6 ⟨rfl, hb⟩; have H6 := WirS.hide (hb.more (Below.alloc (Below.refl _ _) (Nat.le_refl _) (.cells #[.int .i64 6, .int .i64 fa] 55))); clear hb))
                  go_wp2_with ((go_at_call 31; refine (HRest.out _ H6.out).mono ?_; rintro e u7 ⟨rfl, hb⟩; have H7 := WirS.hide hb; clear hb))
                  go_ret
                  exact ⟨rfl, H7.out.low⟩
theorem back_row (w : World) (la : Option Addr) (ln lc : Nat) (ts : List Te) (q : Int) (hL : LIn w la ln ts) (_h0 : -9223372036854775808 ≤ q) (_h1 : q ≤ 9223372036854775807) :
    Calls Try.prog 7 #[.slice la ln lc, .int .i64 q] w fun e w' => e = .returned (.bool true) ∧ Below w.heap.size w w' := back_law w la ln lc ts hL q
end WirBG
end Go.Proofs.Ythhnojnpjbklpaa

