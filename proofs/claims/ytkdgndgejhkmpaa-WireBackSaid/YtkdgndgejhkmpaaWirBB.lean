/-
  back: is a thing read as it was written?
-/
import Derived.Test.YtkdgndgejhkmpaaWirBE
import Derived.Test.YtkdgndgejhkmpaaWirAB
import Derived.Deep.RegionHeld3
namespace Go.Proofs.Ytkdgndgejhkmpaa
namespace WirBB
open Go.RowKit PaceA FltC
open BlkM WirM WirS WirA WirB WirC WirD WirE WirF WirG WirH WirI WirJ WirK WirL WirN WirO WirP WirQ WirR WirT WirU WirV WirW WirX WirZ WirNA WirRT WirAA WirAB WirBE

/-- What a reading call leaves, by any rule Φ. -/
def Rk {α : Type} (w0 : World) (L : List Thg) (R : Nat) (a : Option Addr) (c : Nat) (bs : List Int) (f : α → Value) (Φ : α → Nat → Int → Int → Prop) (e : Ending) (w' : World) : Prop :=
  ∃ x p fe fa, e = .returned (f x) ∧ Bag w0 w' (rdr R a c bs p fe fa :: L) ∧ Φ x p fe fa
/-- Likewise of bytes. -/
def RkB (w0 : World) (L : List Thg) (R : Nat) (a : Option Addr) (c : Nat) (bs : List Int) (Φ : List Int → Nat → Int → Int → Prop) (e : Ending) (w' : World) : Prop :=
  ∃ va vn vc x p fe fa, e = .returned (.slice va vn vc) ∧ Bag w0 w' (own (.slice va vn vc) x :: rdr R a c bs p fe fa :: L) ∧ rng x ∧ Φ x p fe fa
/-- What 'back' leaves. -/
def Bk {α : Type} (w0 : World) (L : List Thg) (R : Nat) (a : Option Addr) (c : Nat) (bs : List Int) (g : α → Bool) (Φ : α → Nat → Int → Int → Prop) (e : Ending) (w' : World) : Prop :=
  ∃ x p fe fa, e = .returned (.bool (g x)) ∧ Bag w0 w' (rdr R a c bs p fe fa :: L) ∧ Φ x p fe fa
set_option maxHeartbeats 2000000 in
set_option maxRecDepth 10000 in
theorem back0 (w0 w : World) (l : List Thg) (R : Nat) (a : Option Addr) (c : Nat) (bs : List Int) (at' : Nat) (fe fa : Int) (t : Td) (Φ : Int → Nat → Int → Int → Prop) (hk : t.kd = 0)
    (C0 : ∀ U L, Bag w0 U (rdr R a c bs at' fe fa :: L) → Calls Try.prog 28 #[.pointer (some ⟨R, 0, none⟩)] U (Rk w0 L R a c bs (.int .i64) Φ))
    (h : Bag w0 w (rdr R a c bs at' fe fa :: l)) :
    Calls Try.prog 38 #[.pointer (some ⟨R, 0, none⟩), .agg t.cells.toArray] w (Bk w0 l R a c bs (fun x => x == t.n) Φ) := by
  obtain ⟨W0, e0⟩ : ∃ X, X = PW w t := ⟨_, rfl⟩
  have hA : At W0 w.heap.size 39 t.cells := by rw [e0]; exact PW_at _ _
  have hb0 : Bag w0 W0 (rdr R a c bs at' fe fa :: box 39 w.heap.size t.cells :: l) := by rw [e0]; exact (bag_box h rfl (PW_at _ _) (PW_below _ _)).swap
  have c0 : W0.cell? ⟨w.heap.size, 0, none⟩ = some (.int .i64 0) := by rw [hA.cell, ← hk]; rfl
  have c1 : W0.cell? ⟨w.heap.size, 1, none⟩ = some (.int .i64 t.n) := (hA.cell 1).trans (rfl)
  have C := WirS.hide C0
  have HB := WirS.hide hb0
  have E0 := WirS.hide e0
  clear hA hk C0 e0 hb0 h
  go_enter Try.func38, Try.ntmps38
  go_upto_region 1 with fail
  rw [show w.alloc (.cells t.cells.toArray 39) = W0 from E0.out.symm]
  generalize w.heap.size = X at *
  clear E0
  go_upto_region 3 with fail
  go_region_held3 (fun w' => w'.cell? ⟨X, 1, none⟩ = some (.int .i64 t.n)) (go_keep)
    (first | (go_at_call 28; refine (C.out _ _ (HB.out.more (below_drewN (Below.refl _ _) 1))).mono ?_; rintro e w1 ⟨x, p, fe', fa', rfl, hb, hc⟩; have c1' : w1.cell? ⟨X, 1, none⟩ = some (.int .i64 t.n) := (hb.swap.head.cell 1).trans (rfl); have HB1 := WirS.hide hb.swap.drop; have HC := WirS.hide hc; clear hb hc))
  go_wp2_with fail
  go_ret
  exact ⟨x, p, fe', fa', rfl, HB1.out, HC.out⟩
set_option maxHeartbeats 2000000 in
set_option maxRecDepth 10000 in
theorem back1 (w0 w : World) (l : List Thg) (R : Nat) (a : Option Addr) (c : Nat) (bs : List Int) (at' : Nat) (fe fa : Int) (t : Td) (Φ : List Int → Nat → Int → Int → Prop) (hk : t.kd = 1) (va : Option Addr) (vn vc : Nat) (hv : t.v = .slice va vn vc) (zs : List Int) (hz : BIn w0 (.slice va vn vc) zs)
    (C0 : ∀ U L, Bag w0 U (rdr R a c bs at' fe fa :: L) → Calls Try.prog 29 #[.pointer (some ⟨R, 0, none⟩), .int .i64 (vn : Int)] U (Rk w0 L R a c bs (fun zs => .string (st zs)) Φ))
    (h : Bag w0 w (rdr R a c bs at' fe fa :: l)) :
    Calls Try.prog 38 #[.pointer (some ⟨R, 0, none⟩), .agg t.cells.toArray] w (Bk w0 l R a c bs (fun x => (st x).toList == (st zs).toList) Φ) := by
  obtain ⟨W0, e0⟩ : ∃ X, X = PW w t := ⟨_, rfl⟩
  have hA : At W0 w.heap.size 39 t.cells := by rw [e0]; exact PW_at _ _
  have hb0 : Bag w0 W0 (rdr R a c bs at' fe fa :: box 39 w.heap.size t.cells :: l) := by rw [e0]; exact (bag_box h rfl (PW_at _ _) (PW_below _ _)).swap
  have c0 : W0.cell? ⟨w.heap.size, 0, none⟩ = some (.int .i64 1) := by rw [hA.cell, ← hk]; rfl
  have c1 : W0.cell? ⟨w.heap.size, 2, none⟩ = some (.slice va vn vc) := by rw [hA.cell, ← hv]; rfl
  have c2 := show t.cells[2]? = some (.slice va vn vc) by rw [← hv]; rfl
  have hcd : (convert 32 9 (.slice va vn vc)).run Try.prog W0.drew = .ok (.string (st zs)) W0.drew := conv_any _ va vn vc zs (hz.below (hb0.more (below_drewN (Below.refl _ _) 1)).low)
  have HZ := WirS.hide hz
  have C := WirS.hide C0
  have HB := WirS.hide hb0
  have E0 := WirS.hide e0
  clear hA hk C0 e0 hb0 h hv hz
  go_enter Try.func38, Try.ntmps38
  go_upto_region 1 with fail
  rw [show w.alloc (.cells t.cells.toArray 39) = W0 from E0.out.symm]
  generalize w.heap.size = X at *
  clear E0
  go_upto_region 5 with fail
  go_region_held3 (fun w' => w'.cell? ⟨X, 2, none⟩ = some (.slice va vn vc) ∧ (convert 32 9 (.slice va vn vc)).run Try.prog w' = .ok (.string (st zs)) w') (go_keep)
    (first | (go_at_call 29; refine (C.out _ _ (HB.out.more (below_drewN (Below.refl _ _) 1))).mono ?_; rintro e w1 ⟨x, p, fe', fa', rfl, hb, hc⟩; have c1' : w1.cell? ⟨X, 2, none⟩ = some (.slice va vn vc) := (hb.swap.head.cell 2).trans c2; have hcv1 := conv_any w1 va vn vc zs (HZ.out.below hb.low); have HB1 := WirS.hide hb.swap.drop; have HC := WirS.hide hc; clear hb hc))
  go_wp2_with fail
  go_ret
  exact ⟨x, p, fe', fa', rfl, HB1.out, HC.out⟩
set_option maxHeartbeats 2000000 in
set_option maxRecDepth 10000 in
theorem back2 (w0 w : World) (l : List Thg) (R : Nat) (a : Option Addr) (c : Nat) (bs : List Int) (at' : Nat) (fe fa : Int) (t : Td) (Φ : List Int → Nat → Int → Int → Prop) (hk : t.kd = 2) (va : Option Addr) (vn vc : Nat) (hv : t.v = .slice va vn vc) (zs : List Int) (hz : BIn w0 (.slice va vn vc) zs) (hrz : rng zs)
    (C0 : ∀ U L, Bag w0 U (rdr R a c bs at' fe fa :: L) → Calls Try.prog 30 #[.pointer (some ⟨R, 0, none⟩), .int .i64 (vn : Int)] U (RkB w0 L R a c bs Φ))
    (h : Bag w0 w (rdr R a c bs at' fe fa :: l)) :
    Calls Try.prog 38 #[.pointer (some ⟨R, 0, none⟩), .agg t.cells.toArray] w (Bk w0 l R a c bs (fun x => decide (x = zs)) Φ) := by
  obtain ⟨W0, e0⟩ : ∃ X, X = PW w t := ⟨_, rfl⟩
  have hA : At W0 w.heap.size 39 t.cells := by rw [e0]; exact PW_at _ _
  have hb0 : Bag w0 W0 (rdr R a c bs at' fe fa :: box 39 w.heap.size t.cells :: l) := by rw [e0]; exact (bag_box h rfl (PW_at _ _) (PW_below _ _)).swap
  have c0 : W0.cell? ⟨w.heap.size, 0, none⟩ = some (.int .i64 2) := by rw [hA.cell, ← hk]; rfl
  have c1 : W0.cell? ⟨w.heap.size, 2, none⟩ = some (.slice va vn vc) := by rw [hA.cell, ← hv]; rfl
  have c2 := show t.cells[2]? = some (.slice va vn vc) by rw [← hv]; rfl
  have HZ := WirS.hide hz
  have HRZ := WirS.hide hrz
  have C := WirS.hide C0
  have HB := WirS.hide hb0
  have E0 := WirS.hide e0
  clear hA hk C0 e0 hb0 h hv hz hrz
  go_enter Try.func38, Try.ntmps38
  go_upto_region 1 with fail
  rw [show w.alloc (.cells t.cells.toArray 39) = W0 from E0.out.symm]
  generalize w.heap.size = X at *
  clear E0
  go_upto_region 7 with fail
  go_region_held3 (fun w' => w'.cell? ⟨X, 2, none⟩ = some (.slice va vn vc)) (go_keep)
    (first | (go_at_call 30; refine (C.out _ _ (HB.out.more (below_drewN (Below.refl _ _) 1))).mono ?_; rintro e w1 ⟨ya, yn, yc, x, p, fe', fa', rfl, hb, hrx, hc⟩; have c1' : w1.cell? ⟨X, 2, none⟩ = some (.slice va vn vc) := ((turn3 hb).head.cell 2).trans c2; have HS := WirS.hide (same_any w1 ya va yn yc vn vc x zs (Own.bin hb.head) (HZ.out.below hb.low) hrx HRZ.out); have HB1 := WirS.hide hb.drop.swap.drop; have HC := WirS.hide hc; clear hb hc hrx) | (go_at_call 20; refine (HS.out).mono ?_; rintro e w2 ⟨rfl, rfl⟩))
  go_wp2_with fail
  go_ret
  exact ⟨x, p, fe', fa', rfl, HB1.out, HC.out⟩
set_option maxHeartbeats 2000000 in
set_option maxRecDepth 10000 in
theorem back3 (w0 w : World) (l : List Thg) (R : Nat) (a : Option Addr) (c : Nat) (bs : List Int) (at' : Nat) (fe fa : Int) (t : Td) (Φ : { l : List Int // l.length = 32 } → Nat → Int → Int → Prop) (hk : t.kd = 3)
    (C0 : ∀ U L, Bag w0 U (rdr R a c bs at' fe fa :: L) → Calls Try.prog 31 #[.pointer (some ⟨R, 0, none⟩)] U (Rk w0 L R a c bs (fun x => aggB x.1) Φ))
    (h : Bag w0 w (rdr R a c bs at' fe fa :: l)) :
    Calls Try.prog 38 #[.pointer (some ⟨R, 0, none⟩), .agg t.cells.toArray] w (Bk w0 l R a c bs (fun x => decide (x.1 = t.h)) Φ) := by
  obtain ⟨W0, e0⟩ : ∃ X, X = PW w t := ⟨_, rfl⟩
  have hA : At W0 w.heap.size 39 t.cells := by rw [e0]; exact PW_at _ _
  have hb0 : Bag w0 W0 (rdr R a c bs at' fe fa :: box 39 w.heap.size t.cells :: l) := by rw [e0]; exact (bag_box h rfl (PW_at _ _) (PW_below _ _)).swap
  have c0 : W0.cell? ⟨w.heap.size, 0, none⟩ = some (.int .i64 3) := by rw [hA.cell, ← hk]; rfl
  have c1 : W0.rangeAt w.heap.size 3 (b8 t.h) := rangeH hA
  have hu := Try.underlying34
  have hi : (Try.prog.info? 34).map (·.size) = some (b8 t.h).length := by rw [b8_len, t.lh]; kernel_rfl
  have hlen : (b8 t.h).length = 32 := by rw [b8_len, t.lh]
  have hone := one_b8 t.h
  have C := WirS.hide C0
  have HB := WirS.hide hb0
  have E0 := WirS.hide e0
  clear hA hk C0 e0 hb0 h
  go_enter Try.func38, Try.ntmps38
  go_upto_region 1 with fail
  rw [show w.alloc (.cells t.cells.toArray 39) = W0 from E0.out.symm]
  generalize w.heap.size = X at *
  clear E0
  have hq := eqH t.h t.lh
  go_upto_region 9 with fail
  go_region_held3 (fun w' => w'.rangeAt X 3 (b8 t.h)) (go_keep_ranges)
    (first | (go_at_call 31; refine (C.out _ _ (HB.out.more (below_drewN (Below.refl _ _) 1))).mono ?_; rintro e w1 ⟨x, p, fe', fa', rfl, hb, hc⟩; have c1' : w1.rangeAt X 3 (b8 t.h) := rangeH hb.swap.head; have hx := hq x.1 x.2; have hgd : ∀ W, (eqGuard .eql 34 (.tmp 40) (.tmp 42) (aggB x.1) (.agg (b8 t.h).toArray)).run Try.prog W = .ok () W := (fun W => by kernel_rfl); have HB1 := WirS.hide hb.swap.drop; have HC := WirS.hide hc; clear hb hc))
  go_wp2_with fail
  go_ret
  exact ⟨x, p, fe', fa', rfl, HB1.out, HC.out⟩
set_option maxHeartbeats 2000000 in
set_option maxRecDepth 10000 in
theorem back4 (w0 w : World) (l : List Thg) (R : Nat) (a : Option Addr) (c : Nat) (bs : List Int) (at' : Nat) (fe fa : Int) (t : Td) (Φ : { l : List Int // l.length = 4 } → Nat → Int → Int → Prop) (hk : t.kd = 4)
    (C0 : ∀ U L, Bag w0 U (rdr R a c bs at' fe fa :: L) → Calls Try.prog 32 #[.pointer (some ⟨R, 0, none⟩)] U (Rk w0 L R a c bs (fun x => aggB x.1) Φ))
    (h : Bag w0 w (rdr R a c bs at' fe fa :: l)) :
    Calls Try.prog 38 #[.pointer (some ⟨R, 0, none⟩), .agg t.cells.toArray] w (Bk w0 l R a c bs (fun x => decide (x.1 = t.k)) Φ) := by
  obtain ⟨W0, e0⟩ : ∃ X, X = PW w t := ⟨_, rfl⟩
  have hA : At W0 w.heap.size 39 t.cells := by rw [e0]; exact PW_at _ _
  have hb0 : Bag w0 W0 (rdr R a c bs at' fe fa :: box 39 w.heap.size t.cells :: l) := by rw [e0]; exact (bag_box h rfl (PW_at _ _) (PW_below _ _)).swap
  have c0 : W0.cell? ⟨w.heap.size, 0, none⟩ = some (.int .i64 4) := by rw [hA.cell, ← hk]; rfl
  obtain ⟨k0, ek0⟩ : ∃ k, k = t.k.getD 0 0 := ⟨_, rfl⟩
  have g0 : t.cells[35]? = some (.int .u8 k0) := by rw [ek0]; exact t.getK 0 (by decide)
  have q0 : W0.cell? ⟨w.heap.size, 35, none⟩ = some (.int .u8 k0) := (hA.cell 35).trans g0
  obtain ⟨k1, ek1⟩ : ∃ k, k = t.k.getD 1 0 := ⟨_, rfl⟩
  have g1 : t.cells[36]? = some (.int .u8 k1) := by rw [ek1]; exact t.getK 1 (by decide)
  have q1 : W0.cell? ⟨w.heap.size, 36, none⟩ = some (.int .u8 k1) := (hA.cell 36).trans g1
  obtain ⟨k2, ek2⟩ : ∃ k, k = t.k.getD 2 0 := ⟨_, rfl⟩
  have g2 : t.cells[37]? = some (.int .u8 k2) := by rw [ek2]; exact t.getK 2 (by decide)
  have q2 : W0.cell? ⟨w.heap.size, 37, none⟩ = some (.int .u8 k2) := (hA.cell 37).trans g2
  obtain ⟨k3, ek3⟩ : ∃ k, k = t.k.getD 3 0 := ⟨_, rfl⟩
  have g3 : t.cells[38]? = some (.int .u8 k3) := by rw [ek3]; exact t.getK 3 (by decide)
  have q3 : W0.cell? ⟨w.heap.size, 38, none⟩ = some (.int .u8 k3) := (hA.cell 38).trans g3
  have hq : ∀ x : List Int, x.length = 4 → ∀ W, (binOp .eql 36 (aggB x) (.agg #[.int .u8 k0, .int .u8 k1, .int .u8 k2, .int .u8 k3])).run Try.prog W = .ok (.bool (decide (x = t.k))) W := fun x lx W => by
    have h4 : t.k = [k0, k1, k2, k3] := by
      have hl := t.lk
      rw [ek0, ek1, ek2, ek3]
      match t.k, hl with
      | [_, _, _, _], _ => rfl
    have := eqK t.k t.lk x lx W
    rw [show (b8 t.k).toArray = #[.int .u8 k0, .int .u8 k1, .int .u8 k2, .int .u8 k3] by rw [h4]; rfl] at this
    exact this
  have C := WirS.hide C0
  have HB := WirS.hide hb0
  have E0 := WirS.hide e0
  clear hA hk C0 e0 hb0 h
  go_enter Try.func38, Try.ntmps38
  go_upto_region 1 with fail
  rw [show w.alloc (.cells t.cells.toArray 39) = W0 from E0.out.symm]
  generalize w.heap.size = X at *
  clear E0
  clear ek0 ek1 ek2 ek3
  go_upto_region 11 with fail
  go_region_held3 (fun w' => w'.cell? ⟨X, 35, none⟩ = some (.int .u8 k0) ∧ w'.cell? ⟨X, 36, none⟩ = some (.int .u8 k1) ∧ w'.cell? ⟨X, 37, none⟩ = some (.int .u8 k2) ∧ w'.cell? ⟨X, 38, none⟩ = some (.int .u8 k3)) (go_keep)
    (first | (go_at_call 32; refine (C.out _ _ (HB.out.more (below_drewN (Below.refl _ _) 1))).mono ?_; rintro e w1 ⟨x, p, fe', fa', rfl, hb, hc⟩; have r0 : w1.cell? ⟨X, 35, none⟩ = some (.int .u8 k0) := (hb.swap.head.cell 35).trans g0; have r1 : w1.cell? ⟨X, 36, none⟩ = some (.int .u8 k1) := (hb.swap.head.cell 36).trans g1; have r2 : w1.cell? ⟨X, 37, none⟩ = some (.int .u8 k2) := (hb.swap.head.cell 37).trans g2; have r3 : w1.cell? ⟨X, 38, none⟩ = some (.int .u8 k3) := (hb.swap.head.cell 38).trans g3; have hx := hq x.1 x.2; have hgd : ∀ W, (eqGuard .eql 36 (.tmp 47) (.tmp 49) (aggB x.1) (.agg #[.int .u8 k0, .int .u8 k1, .int .u8 k2, .int .u8 k3])).run Try.prog W = .ok () W := (fun W => by kernel_rfl); have HB1 := WirS.hide hb.swap.drop; have HC := WirS.hide hc; clear hb hc))
  go_wp2_with fail
  go_ret
  exact ⟨x, p, fe', fa', rfl, HB1.out, HC.out⟩
set_option maxHeartbeats 2000000 in
set_option maxRecDepth 10000 in
theorem back5 (w0 w : World) (l : List Thg) (R : Nat) (a : Option Addr) (c : Nat) (bs : List Int) (at' : Nat) (fe fa : Int) (t : Td) (Φ : Int → Nat → Int → Int → Prop) (hk : t.kd = 5)
    (C0 : ∀ U L, Bag w0 U (rdr R a c bs at' fe fa :: L) → Calls Try.prog 33 #[.pointer (some ⟨R, 0, none⟩)] U (Rk w0 L R a c bs (.int .u64) Φ))
    (h : Bag w0 w (rdr R a c bs at' fe fa :: l)) :
    Calls Try.prog 38 #[.pointer (some ⟨R, 0, none⟩), .agg t.cells.toArray] w (Bk w0 l R a c bs (fun x => x == t.u) Φ) := by
  obtain ⟨W0, e0⟩ : ∃ X, X = PW w t := ⟨_, rfl⟩
  have hA : At W0 w.heap.size 39 t.cells := by rw [e0]; exact PW_at _ _
  have hb0 : Bag w0 W0 (rdr R a c bs at' fe fa :: box 39 w.heap.size t.cells :: l) := by rw [e0]; exact (bag_box h rfl (PW_at _ _) (PW_below _ _)).swap
  have c0 : W0.cell? ⟨w.heap.size, 0, none⟩ = some (.int .i64 5) := by rw [hA.cell, ← hk]; rfl
  have c1 : W0.cell? ⟨w.heap.size, 39, none⟩ = some (.int .u64 t.u) := (hA.cell 39).trans (t.getU)
  have C := WirS.hide C0
  have HB := WirS.hide hb0
  have E0 := WirS.hide e0
  clear hA hk C0 e0 hb0 h
  go_enter Try.func38, Try.ntmps38
  go_upto_region 1 with fail
  rw [show w.alloc (.cells t.cells.toArray 39) = W0 from E0.out.symm]
  generalize w.heap.size = X at *
  clear E0
  go_upto_region 13 with fail
  go_region_held3 (fun w' => w'.cell? ⟨X, 39, none⟩ = some (.int .u64 t.u)) (go_keep)
    (first | (go_at_call 33; refine (C.out _ _ (HB.out.more (below_drewN (Below.refl _ _) 1))).mono ?_; rintro e w1 ⟨x, p, fe', fa', rfl, hb, hc⟩; have c1' : w1.cell? ⟨X, 39, none⟩ = some (.int .u64 t.u) := (hb.swap.head.cell 39).trans (t.getU); have HB1 := WirS.hide hb.swap.drop; have HC := WirS.hide hc; clear hb hc))
  go_wp2_with fail
  go_ret
  exact ⟨x, p, fe', fa', rfl, HB1.out, HC.out⟩
set_option maxHeartbeats 2000000 in
set_option maxRecDepth 10000 in
theorem back6 (w0 w : World) (l : List Thg) (R : Nat) (a : Option Addr) (c : Nat) (bs : List Int) (at' : Nat) (fe fa : Int) (t : Td) (Φ : Nat → Nat → Int → Int → Prop) (hk : t.kd = 6) (u : Nat) (hu : t.u = (u : Int))
    (C0 : ∀ U L, Bag w0 U (rdr R a c bs at' fe fa :: L) → Calls Try.prog 34 #[.pointer (some ⟨R, 0, none⟩)] U (Rk w0 L R a c bs (.float .f64) Φ))
    (h : Bag w0 w (rdr R a c bs at' fe fa :: l)) :
    Calls Try.prog 38 #[.pointer (some ⟨R, 0, none⟩), .agg t.cells.toArray] w (Bk w0 l R a c bs (fun x => (x == u) || (isN x && isN u)) Φ) := by
  obtain ⟨W0, e0⟩ : ∃ X, X = PW w t := ⟨_, rfl⟩
  have hA : At W0 w.heap.size 39 t.cells := by rw [e0]; exact PW_at _ _
  have hb0 : Bag w0 W0 (rdr R a c bs at' fe fa :: box 39 w.heap.size t.cells :: l) := by rw [e0]; exact (bag_box h rfl (PW_at _ _) (PW_below _ _)).swap
  have c0 : W0.cell? ⟨w.heap.size, 0, none⟩ = some (.int .i64 6) := by rw [hA.cell, ← hk]; rfl
  have c1 : W0.cell? ⟨w.heap.size, 39, none⟩ = some (.int .u64 (u : Int)) := by rw [hA.cell, ← hu]; exact t.getU
  have c2 := show t.cells[39]? = some (.int .u64 (u : Int)) by rw [← hu]; exact t.getU
  have hff := ffrom u
  have C := WirS.hide C0
  have HB := WirS.hide hb0
  have E0 := WirS.hide e0
  clear hA hk C0 e0 hb0 h hu
  go_enter Try.func38, Try.ntmps38
  go_upto_region 1 with fail
  rw [show w.alloc (.cells t.cells.toArray 39) = W0 from E0.out.symm]
  generalize w.heap.size = X at *
  clear E0
  go_upto_region 15 with fail
  go_region_held3 (fun w' => w'.cell? ⟨X, 39, none⟩ = some (.int .u64 (u : Int))) (go_keep)
    (first | (go_at_call 34; refine (C.out _ _ (HB.out.more (below_drewN (Below.refl _ _) 1))).mono ?_; rintro e w1 ⟨x, p, fe', fa', rfl, hb, hc⟩; have c1' : w1.cell? ⟨X, 39, none⟩ = some (.int .u64 (u : Int)) := (hb.swap.head.cell 39).trans c2; have HB1 := WirS.hide hb.swap.drop; have HC := WirS.hide hc; clear hb hc))
  have hfb := fbits x
  have n1 := neq_self x
  have n2 := neq_self u
  go_upto_region 16 with fail
  by_cases hxu : x = u
  · have hd : ((x : Int) == (u : Int)) = true := by simp [hxu]
    have hd2 : (x == u) = true := by simp [hxu]
    have HG := WirS.hide (show ((x == u) || (isN x && isN u)) = true by simp [hxu])
    clear hxu
    go_quiet (fail)
    go_wp2_with fail
    go_ret
    exact ⟨x, p, fe', fa', (by show _ = Ending.returned (.bool ((x == u) || (isN x && isN u))); rw [HG.out]; rfl), HB1.out.more (below_drewN (Below.refl _ _) nq), HC.out⟩
  have hd : ((x : Int) == (u : Int)) = false := by simp; omega
  have hd2 : (x == u) = false := by simpa using hxu
  clear hxu
  cases hnx : isN x with
  | false =>
    rw [hnx] at n1
    have HG := WirS.hide (show ((x == u) || (isN x && isN u)) = false by rw [hd2, hnx]; rfl)
    clear hnx
    go_quiet (fail)
    go_wp2_with fail
    go_ret
    exact ⟨x, p, fe', fa', (by show _ = Ending.returned (.bool ((x == u) || (isN x && isN u))); rw [HG.out]; rfl), HB1.out.more (below_drewN (Below.refl _ _) nq), HC.out⟩
  | true =>
    rw [hnx] at n1
    cases hnu : isN u with
    | false =>
      rw [hnu] at n2
      have HG := WirS.hide (show ((x == u) || (isN x && isN u)) = false by rw [hd2, hnx, hnu]; rfl)
      clear hnx hnu
      go_quiet (fail)
      go_wp2_with fail
      go_ret
      exact ⟨x, p, fe', fa', (by show _ = Ending.returned (.bool ((x == u) || (isN x && isN u))); rw [HG.out]; rfl), HB1.out.more (below_drewN (Below.refl _ _) nq), HC.out⟩
    | true =>
      rw [hnu] at n2
      have HG := WirS.hide (show ((x == u) || (isN x && isN u)) = true by rw [hd2, hnx, hnu]; rfl)
      clear hnx hnu
      go_quiet (fail)
      go_wp2_with fail
      go_ret
      exact ⟨x, p, fe', fa', (by show _ = Ending.returned (.bool ((x == u) || (isN x && isN u))); rw [HG.out]; rfl), HB1.out.more (below_drewN (Below.refl _ _) nq), HC.out⟩
set_option maxHeartbeats 2000000 in
set_option maxRecDepth 10000 in
theorem back7 (w0 w : World) (l : List Thg) (R : Nat) (a : Option Addr) (c : Nat) (bs : List Int) (at' : Nat) (fe fa : Int) (t : Td) (Φ : Bool → Nat → Int → Int → Prop) (hk : t.kd = 7)
    (C0 : ∀ U L, Bag w0 U (rdr R a c bs at' fe fa :: L) → Calls Try.prog 35 #[.pointer (some ⟨R, 0, none⟩)] U (Rk w0 L R a c bs (.bool) Φ))
    (h : Bag w0 w (rdr R a c bs at' fe fa :: l)) :
    Calls Try.prog 38 #[.pointer (some ⟨R, 0, none⟩), .agg t.cells.toArray] w (Bk w0 l R a c bs (fun x => x == t.is) Φ) := by
  obtain ⟨W0, e0⟩ : ∃ X, X = PW w t := ⟨_, rfl⟩
  have hA : At W0 w.heap.size 39 t.cells := by rw [e0]; exact PW_at _ _
  have hb0 : Bag w0 W0 (rdr R a c bs at' fe fa :: box 39 w.heap.size t.cells :: l) := by rw [e0]; exact (bag_box h rfl (PW_at _ _) (PW_below _ _)).swap
  have c0 : W0.cell? ⟨w.heap.size, 0, none⟩ = some (.int .i64 7) := by rw [hA.cell, ← hk]; rfl
  have c1 : W0.cell? ⟨w.heap.size, 40, none⟩ = some (.bool t.is) := (hA.cell 40).trans (t.getIs)
  have C := WirS.hide C0
  have HB := WirS.hide hb0
  have E0 := WirS.hide e0
  clear hA hk C0 e0 hb0 h
  go_enter Try.func38, Try.ntmps38
  go_upto_region 1 with fail
  rw [show w.alloc (.cells t.cells.toArray 39) = W0 from E0.out.symm]
  generalize w.heap.size = X at *
  clear E0
  go_upto_region 18 with fail
  go_region_held3 (fun w' => w'.cell? ⟨X, 40, none⟩ = some (.bool t.is)) (go_keep)
    (first | (go_at_call 35; refine (C.out _ _ (HB.out.more (below_drewN (Below.refl _ _) 1))).mono ?_; rintro e w1 ⟨x, p, fe', fa', rfl, hb, hc⟩; have c1' : w1.cell? ⟨X, 40, none⟩ = some (.bool t.is) := (hb.swap.head.cell 40).trans (t.getIs); have HB1 := WirS.hide hb.swap.drop; have HC := WirS.hide hc; clear hb hc))
  go_wp2_with fail
  go_ret
  exact ⟨x, p, fe', fa', rfl, HB1.out, HC.out⟩
end WirBB
end Go.Proofs.Ytkdgndgejhkmpaa
