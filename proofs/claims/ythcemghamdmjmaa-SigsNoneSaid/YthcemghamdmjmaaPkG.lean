/-
  WirZ, WirNA, WirNB, WirO1, WirRT, WirAA, in one text.
-/
import Derived.Test.YthcemghamdmjmaaPkF
import Derived.ProofKit
import Derived.OpenShut
import Derived.ShutString
import Derived.ChangeOld
import Derived.Lib.SmallJoins
namespace Go.Proofs.Ythcemghamdmjmaa
namespace WirZ
open Go.RowKit PaceA
open BlkM WirM WirS WirA WirB WirC WirD WirE WirF WirG WirH WirI WirJ WirK WirL WirN WirO WirP WirQ WirR WirT WirU WirV WirW WirX

/-- A thing. -/
structure Td where
  kd : Int
  n : Int
  v : Value
  h : List Int
  k : List Int
  u : Int
  is : Bool
  lh : h.length = 32
  lk : k.length = 4
def Td.cells (t : Td) : List Value := .int .i64 t.kd :: .int .i64 t.n :: t.v :: (b8 t.h ++ (b8 t.k ++ [.int .u64 t.u, .bool t.is]))
theorem Td.len (t : Td) : t.cells.length = 41 := by simp [Td.cells, b8_len, t.lh, t.lk]
theorem Td.getH (t : Td) (i : Nat) (hi : i < 32) : t.cells[3 + i]? = some (.int .u8 (t.h.getD i 0)) := by
  have h1 : (b8 t.h).length = 32 := by rw [b8_len, t.lh]
  rw [show 3 + i = i + 3 by omega]
  show (b8 t.h ++ (b8 t.k ++ [.int .u64 t.u, .bool t.is]))[i]? = _
  rw [List.getElem?_append_left (by omega)]
  exact b8_get _ _ (by rw [t.lh]; exact hi)
theorem Td.getK (t : Td) (i : Nat) (hi : i < 4) : t.cells[35 + i]? = some (.int .u8 (t.k.getD i 0)) := by
  have h1 : (b8 t.h).length = 32 := by rw [b8_len, t.lh]
  have h2 : (b8 t.k).length = 4 := by rw [b8_len, t.lk]
  rw [show 35 + i = (32 + i) + 3 by omega]
  show (b8 t.h ++ (b8 t.k ++ [.int .u64 t.u, .bool t.is]))[32 + i]? = _
  rw [List.getElem?_append_right (by omega), h1, Nat.add_sub_cancel_left, List.getElem?_append_left (by omega)]
  exact b8_get _ _ (by rw [t.lk]; exact hi)
theorem Td.getU (t : Td) : t.cells[39]? = some (.int .u64 t.u) := by
  have h1 : (b8 t.h).length = 32 := by rw [b8_len, t.lh]
  have h2 : (b8 t.k).length = 4 := by rw [b8_len, t.lk]
  show (b8 t.h ++ (b8 t.k ++ [.int .u64 t.u, .bool t.is]))[36]? = _
  rw [List.getElem?_append_right (by omega), h1, List.getElem?_append_right (by omega), h2]
  rfl
theorem Td.getIs (t : Td) : t.cells[40]? = some (.bool t.is) := by
  have h1 : (b8 t.h).length = 32 := by rw [b8_len, t.lh]
  have h2 : (b8 t.k).length = 4 := by rw [b8_len, t.lk]
  show (b8 t.h ++ (b8 t.k ++ [.int .u64 t.u, .bool t.is]))[37]? = _
  rw [List.getElem?_append_right (by omega), h1, List.getElem?_append_right (by omega), h2]
  rfl
/-- The world behind a box of it. -/
def PW (w : World) (t : Td) : World := w.alloc (.cells t.cells.toArray 39)
theorem PW_below (w : World) (t : Td) : Below w.heap.size w (PW w t) := Below.alloc (Below.refl _ _) (Nat.le_refl _) _
theorem PW_at (w : World) (t : Td) : At (PW w t) w.heap.size 39 t.cells := At.new _ _ _
theorem rangeH {w : World} {b : Nat} {T : TypeId} {t : Td} (h : At w b T t.cells) : w.rangeAt b 3 (b8 t.h) := fun j v hj => by
  have hl : j < 32 := by
    have := (List.getElem?_eq_some_iff.1 hj).1
    rw [b8_len, t.lh] at this
    exact this
  rw [h.cell, t.getH j hl, ← b8_get t.h j (by rw [t.lh]; exact hl)]
  exact hj
theorem rangeK {w : World} {b : Nat} {T : TypeId} {t : Td} (h : At w b T t.cells) : w.rangeAt b 35 (b8 t.k) := fun j v hj => by
  have hl : j < 4 := by
    have := (List.getElem?_eq_some_iff.1 hj).1
    rw [b8_len, t.lk] at this
    exact this
  rw [h.cell, t.getK j hl, ← b8_get t.k j (by rw [t.lk]; exact hl)]
  exact hj
def Ans (E : Int) (R : World → Prop) (e : Ending) (w' : World) : Prop := e = .returned (.int .i64 E) ∧ R w'
theorem puts0 (w : World) (p : Option Addr) (t : Td) (va : Option Addr) (vn vc : Nat) (hv : t.v = .slice va vn vc) (hk : t.kd = 0) (E : Int) (R : World → Prop)
    (H0 : Calls Try.prog 45 #[.pointer p, .int .i64 t.n] (PW w t) (Ans E R)) :
    Calls Try.prog 23 #[.pointer p, .agg t.cells.toArray] w (Ans E R) := by
  obtain ⟨W0, e0⟩ : ∃ X, X = PW w t := ⟨_, rfl⟩
  rw [← e0] at H0
  have hA : At W0 w.heap.size 39 t.cells := by rw [e0]; exact PW_at _ _
  have c0 : W0.cell? ⟨w.heap.size, 0, none⟩ = some (.int .i64 0) := by rw [hA.cell, ← hk]; rfl
  have c1 : W0.cell? ⟨w.heap.size, 1, none⟩ = some (.int .i64 t.n) := by rw [hA.cell]; rfl
  have c2 : W0.cell? ⟨w.heap.size, 2, none⟩ = some (.slice va vn vc) := by rw [hA.cell, ← hv]; rfl
  have c5 : W0.cell? ⟨w.heap.size, 39, none⟩ = some (.int .u64 t.u) := by rw [hA.cell, t.getU]
  have c6 : W0.cell? ⟨w.heap.size, 40, none⟩ = some (.bool t.is) := by rw [hA.cell, t.getIs]
  have H := WirS.hide H0
  have E0 := WirS.hide e0
  clear hA hk hv H0 e0
  go_enter Try.func23, Try.ntmps23
  go_upto_region 1 with fail
  rw [show w.alloc (.cells t.cells.toArray 39) = W0 from E0.out.symm]
  go_wp2_with ((go_at_call 45; refine (H.out).mono ?_; rintro e w1 ⟨rfl, hs⟩; have HS := WirS.hide hs; clear hs))
  go_ret
  exact ⟨rfl, HS.out⟩
theorem puts2 (w : World) (p : Option Addr) (t : Td) (va : Option Addr) (vn vc : Nat) (hv : t.v = .slice va vn vc) (hk : t.kd = 2) (E : Int) (R : World → Prop)
    (H0 : Calls Try.prog 99 #[.pointer p, .slice va vn vc] (PW w t) (Ans E R)) :
    Calls Try.prog 23 #[.pointer p, .agg t.cells.toArray] w (Ans E R) := by
  obtain ⟨W0, e0⟩ : ∃ X, X = PW w t := ⟨_, rfl⟩
  rw [← e0] at H0
  have hA : At W0 w.heap.size 39 t.cells := by rw [e0]; exact PW_at _ _
  have c0 : W0.cell? ⟨w.heap.size, 0, none⟩ = some (.int .i64 2) := by rw [hA.cell, ← hk]; rfl
  have c1 : W0.cell? ⟨w.heap.size, 1, none⟩ = some (.int .i64 t.n) := by rw [hA.cell]; rfl
  have c2 : W0.cell? ⟨w.heap.size, 2, none⟩ = some (.slice va vn vc) := by rw [hA.cell, ← hv]; rfl
  have c5 : W0.cell? ⟨w.heap.size, 39, none⟩ = some (.int .u64 t.u) := by rw [hA.cell, t.getU]
  have c6 : W0.cell? ⟨w.heap.size, 40, none⟩ = some (.bool t.is) := by rw [hA.cell, t.getIs]
  have H := WirS.hide H0
  have E0 := WirS.hide e0
  clear hA hk hv H0 e0
  go_enter Try.func23, Try.ntmps23
  go_upto_region 1 with fail
  rw [show w.alloc (.cells t.cells.toArray 39) = W0 from E0.out.symm]
  go_wp2_with ((go_at_call 99; refine (H.out).mono ?_; rintro e w1 ⟨rfl, hs⟩; have HS := WirS.hide hs; clear hs))
  go_ret
  exact ⟨rfl, HS.out⟩
theorem puts5 (w : World) (p : Option Addr) (t : Td) (va : Option Addr) (vn vc : Nat) (hv : t.v = .slice va vn vc) (hk : t.kd = 5) (E : Int) (R : World → Prop)
    (H0 : Calls Try.prog 96 #[.pointer p, .int .u64 t.u] (PW w t) (Ans E R)) :
    Calls Try.prog 23 #[.pointer p, .agg t.cells.toArray] w (Ans E R) := by
  obtain ⟨W0, e0⟩ : ∃ X, X = PW w t := ⟨_, rfl⟩
  rw [← e0] at H0
  have hA : At W0 w.heap.size 39 t.cells := by rw [e0]; exact PW_at _ _
  have c0 : W0.cell? ⟨w.heap.size, 0, none⟩ = some (.int .i64 5) := by rw [hA.cell, ← hk]; rfl
  have c1 : W0.cell? ⟨w.heap.size, 1, none⟩ = some (.int .i64 t.n) := by rw [hA.cell]; rfl
  have c2 : W0.cell? ⟨w.heap.size, 2, none⟩ = some (.slice va vn vc) := by rw [hA.cell, ← hv]; rfl
  have c5 : W0.cell? ⟨w.heap.size, 39, none⟩ = some (.int .u64 t.u) := by rw [hA.cell, t.getU]
  have c6 : W0.cell? ⟨w.heap.size, 40, none⟩ = some (.bool t.is) := by rw [hA.cell, t.getIs]
  have H := WirS.hide H0
  have E0 := WirS.hide e0
  clear hA hk hv H0 e0
  go_enter Try.func23, Try.ntmps23
  go_upto_region 1 with fail
  rw [show w.alloc (.cells t.cells.toArray 39) = W0 from E0.out.symm]
  go_wp2_with ((go_at_call 96; refine (H.out).mono ?_; rintro e w1 ⟨rfl, hs⟩; have HS := WirS.hide hs; clear hs))
  go_ret
  exact ⟨rfl, HS.out⟩
theorem puts7 (w : World) (p : Option Addr) (t : Td) (va : Option Addr) (vn vc : Nat) (hv : t.v = .slice va vn vc) (hk : t.kd = 7) (E : Int) (R : World → Prop)
    (H0 : Calls Try.prog 97 #[.pointer p, .bool t.is] (PW w t) (Ans E R)) :
    Calls Try.prog 23 #[.pointer p, .agg t.cells.toArray] w (Ans E R) := by
  obtain ⟨W0, e0⟩ : ∃ X, X = PW w t := ⟨_, rfl⟩
  rw [← e0] at H0
  have hA : At W0 w.heap.size 39 t.cells := by rw [e0]; exact PW_at _ _
  have c0 : W0.cell? ⟨w.heap.size, 0, none⟩ = some (.int .i64 7) := by rw [hA.cell, ← hk]; rfl
  have c1 : W0.cell? ⟨w.heap.size, 1, none⟩ = some (.int .i64 t.n) := by rw [hA.cell]; rfl
  have c2 : W0.cell? ⟨w.heap.size, 2, none⟩ = some (.slice va vn vc) := by rw [hA.cell, ← hv]; rfl
  have c5 : W0.cell? ⟨w.heap.size, 39, none⟩ = some (.int .u64 t.u) := by rw [hA.cell, t.getU]
  have c6 : W0.cell? ⟨w.heap.size, 40, none⟩ = some (.bool t.is) := by rw [hA.cell, t.getIs]
  have H := WirS.hide H0
  have E0 := WirS.hide e0
  clear hA hk hv H0 e0
  go_enter Try.func23, Try.ntmps23
  go_upto_region 1 with fail
  rw [show w.alloc (.cells t.cells.toArray 39) = W0 from E0.out.symm]
  go_wp2_with ((go_at_call 97; refine (H.out).mono ?_; rintro e w1 ⟨rfl, hs⟩; have HS := WirS.hide hs; clear hs))
  go_ret
  exact ⟨rfl, HS.out⟩
theorem puts1 (w : World) (p : Option Addr) (t : Td) (va : Option Addr) (vn vc : Nat) (hv : t.v = .slice va vn vc) (zs : List Int) (hb : BIn w (.slice va vn vc) zs) (hk : t.kd = 1) (E : Int) (R : World → Prop)
    (H0 : Calls Try.prog 95 #[.pointer p, .string (st zs)] (PW w t) (Ans E R)) :
    Calls Try.prog 23 #[.pointer p, .agg t.cells.toArray] w (Ans E R) := by
  obtain ⟨W0, e0⟩ : ∃ X, X = PW w t := ⟨_, rfl⟩
  rw [← e0] at H0
  have hA : At W0 w.heap.size 39 t.cells := by rw [e0]; exact PW_at _ _
  have c0 : W0.cell? ⟨w.heap.size, 0, none⟩ = some (.int .i64 1) := by rw [hA.cell, ← hk]; rfl
  have c2 : W0.cell? ⟨w.heap.size, 2, none⟩ = some (.slice va vn vc) := by rw [hA.cell, ← hv]; rfl
  have hcv := conv_any W0 va vn vc zs (by rw [e0]; exact hb.below (PW_below _ _))
  have H := WirS.hide H0
  have E0 := WirS.hide e0
  clear hA hk hv H0 e0 hb
  go_enter Try.func23, Try.ntmps23
  go_upto_region 1 with fail
  rw [show w.alloc (.cells t.cells.toArray 39) = W0 from E0.out.symm]
  go_wp2_with ((go_at_call 95; refine (H.out).mono ?_; rintro e w1 ⟨rfl, hs⟩; have HS := WirS.hide hs; clear hs))
  go_ret
  exact ⟨rfl, HS.out⟩
theorem puts6 (w : World) (p : Option Addr) (t : Td) (x : Nat) (hu : t.u = (x : Int)) (hk : t.kd = 6) (E : Int) (R : World → Prop)
    (H0 : Calls Try.prog 102 #[.pointer p, .float .f64 x] (PW w t) (Ans E R)) :
    Calls Try.prog 23 #[.pointer p, .agg t.cells.toArray] w (Ans E R) := by
  obtain ⟨W0, e0⟩ : ∃ X, X = PW w t := ⟨_, rfl⟩
  rw [← e0] at H0
  have hA : At W0 w.heap.size 39 t.cells := by rw [e0]; exact PW_at _ _
  have c0 : W0.cell? ⟨w.heap.size, 0, none⟩ = some (.int .i64 6) := by rw [hA.cell, ← hk]; rfl
  have c5 : W0.cell? ⟨w.heap.size, 39, none⟩ = some (.int .u64 (x : Int)) := by rw [hA.cell, t.getU, hu]
  have hff := ffrom x
  have H := WirS.hide H0
  have E0 := WirS.hide e0
  clear hA hk hu H0 e0
  go_enter Try.func23, Try.ntmps23
  go_upto_region 1 with fail
  rw [show w.alloc (.cells t.cells.toArray 39) = W0 from E0.out.symm]
  go_wp2_with ((go_at_call 102; refine (H.out).mono ?_; rintro e w1 ⟨rfl, hs⟩; have HS := WirS.hide hs; clear hs))
  go_ret
  exact ⟨rfl, HS.out⟩
theorem puts3 (w : World) (p : Option Addr) (t : Td) (hk : t.kd = 3) (E : Int) (R : World → Prop)
    (H0 : Calls Try.prog 100 #[.pointer p, .agg (b8 t.h).toArray] (PW w t) (Ans E R)) :
    Calls Try.prog 23 #[.pointer p, .agg t.cells.toArray] w (Ans E R) := by
  obtain ⟨W0, e0⟩ : ∃ X, X = PW w t := ⟨_, rfl⟩
  rw [← e0] at H0
  have hA : At W0 w.heap.size 39 t.cells := by rw [e0]; exact PW_at _ _
  have c0 : W0.cell? ⟨w.heap.size, 0, none⟩ = some (.int .i64 3) := by rw [hA.cell, ← hk]; rfl
  have HRg := WirS.hide (rangeH hA)
  have H := WirS.hide H0
  have E0 := WirS.hide e0
  clear hA hk H0 e0
  go_enter Try.func23, Try.ntmps23
  go_upto_region 1 with fail
  rw [show w.alloc (.cells t.cells.toArray 39) = W0 from E0.out.symm]
  go_upto_region 9 with fail
  refine wp_region_lit ?_
  refine sV (.pointer p) (W0) (by kernel_rfl) (by kernel_rfl) ?_
  simp only [Act.put, List.setIfInBounds_toArray, List.set_cons_succ, List.set_cons_zero]
  refine sV (.pointer (some ⟨w.heap.size, 3, none⟩)) (W0) (by kernel_rfl) (by kernel_rfl) ?_
  simp only [Act.put, List.setIfInBounds_toArray, List.set_cons_succ, List.set_cons_zero]
  refine wpList_load_mid (by rfl) _ _ (by rfl) w.heap.size 3 (by kernel_rfl) (b8 t.h) _ HRg.out Try.underlying34 (by rfl) (by rw [b8_len, t.lh]; kernel_rfl) ?_
  simp only [Act.put, List.setIfInBounds_toArray, List.set_cons_succ, List.set_cons_zero]
  refine sC (by kernel_rfl) (by kernel_rfl) H.out ?_
  intro w6 hs
  simp only [Act.put, List.setIfInBounds_toArray, List.set_cons_succ, List.set_cons_zero]
  have HS := WirS.hide hs
  clear hs
  go_wp2_with fail
  go_ret
  exact ⟨rfl, HS.out⟩
theorem puts4 (w : World) (p : Option Addr) (t : Td) (hk : t.kd = 4) (E : Int) (R : World → Prop)
    (H0 : Calls Try.prog 101 #[.pointer p, .agg (b8 t.k).toArray] (PW w t) (Ans E R)) :
    Calls Try.prog 23 #[.pointer p, .agg t.cells.toArray] w (Ans E R) := by
  obtain ⟨W0, e0⟩ : ∃ X, X = PW w t := ⟨_, rfl⟩
  rw [← e0] at H0
  have hA : At W0 w.heap.size 39 t.cells := by rw [e0]; exact PW_at _ _
  have c0 : W0.cell? ⟨w.heap.size, 0, none⟩ = some (.int .i64 4) := by rw [hA.cell, ← hk]; rfl
  have HRg := WirS.hide (rangeK hA)
  have H := WirS.hide H0
  have E0 := WirS.hide e0
  clear hA hk H0 e0
  go_enter Try.func23, Try.ntmps23
  go_upto_region 1 with fail
  rw [show w.alloc (.cells t.cells.toArray 39) = W0 from E0.out.symm]
  go_upto_region 11 with fail
  refine wp_region_lit ?_
  refine sV (.pointer p) (W0) (by kernel_rfl) (by kernel_rfl) ?_
  simp only [Act.put, List.setIfInBounds_toArray, List.set_cons_succ, List.set_cons_zero]
  refine sV (.pointer (some ⟨w.heap.size, 35, none⟩)) (W0) (by kernel_rfl) (by kernel_rfl) ?_
  simp only [Act.put, List.setIfInBounds_toArray, List.set_cons_succ, List.set_cons_zero]
  refine wpList_load_mid (by rfl) _ _ (by rfl) w.heap.size 35 (by kernel_rfl) (b8 t.k) _ HRg.out Try.underlying36 (by rfl) (by rw [b8_len, t.lk]; kernel_rfl) ?_
  simp only [Act.put, List.setIfInBounds_toArray, List.set_cons_succ, List.set_cons_zero]
  refine sC (by kernel_rfl) (by kernel_rfl) H.out ?_
  intro w6 hs
  simp only [Act.put, List.setIfInBounds_toArray, List.set_cons_succ, List.set_cons_zero]
  have HS := WirS.hide hs
  clear hs
  go_wp2_with fail
  go_ret
  exact ⟨rfl, HS.out⟩
theorem putsE (w : World) (p : Option Addr) (t : Td) (hk : ¬ (0 ≤ t.kd ∧ t.kd ≤ 7)) :
    Calls Try.prog 23 #[.pointer p, .agg t.cells.toArray] w (Ans 0 fun w' => w' = PW w t) := by
  obtain ⟨W0, e0⟩ : ∃ X, X = PW w t := ⟨_, rfl⟩
  have hA : At W0 w.heap.size 39 t.cells := by rw [e0]; exact PW_at _ _
  have c0 : W0.cell? ⟨w.heap.size, 0, none⟩ = some (.int .i64 t.kd) := by rw [hA.cell]; rfl
  have E0 := WirS.hide e0
  have h0 : (t.kd == 0) = false := by simp; omega
  have h1 : (t.kd == 1) = false := by simp; omega
  have h2 : (t.kd == 2) = false := by simp; omega
  have h3 : (t.kd == 3) = false := by simp; omega
  have h4 : (t.kd == 4) = false := by simp; omega
  have h5 : (t.kd == 5) = false := by simp; omega
  have h6 : (t.kd == 6) = false := by simp; omega
  have h7 : (t.kd == 7) = false := by simp; omega
  clear hA hk e0
  go_enter Try.func23, Try.ntmps23
  go_upto_region 1 with fail
  rw [show w.alloc (.cells t.cells.toArray 39) = W0 from E0.out.symm]
  go_wp2_with fail
  go_ret
  exact ⟨rfl, E0.out⟩
end WirZ
end Go.Proofs.Ythcemghamdmjmaa

namespace Go.Proofs.Ythcemghamdmjmaa
namespace WirNA
open Go.RowKit PaceA FltC
open BlkM WirM WirS WirA WirB WirC WirD WirE WirF WirG WirH WirI WirJ WirK WirL WirN WirO WirP WirQ WirR WirT WirU WirV WirW WirX WirZ

theorem noW_below {w w' : World} {p : Option Addr} (h : NoW w p) (hp : ∀ S, p = some ⟨S, 0, none⟩ → S < w.heap.size) (hb : Below w.heap.size w w') : NoW w' p := by
  rcases h with rfl | ⟨S, rfl, hc⟩
  · exact .inl rfl
  · exact .inr ⟨S, rfl, (hb.cell (hp S rfl)).trans hc⟩
def Ans1 (w : World) : Ending → World → Prop := fun e w' => e = .returned (.int .i64 1) ∧ Below w.heap.size w w'
theorem putn (w W1 : World) (p : Option Addr) (a b : Option Addr) (n c m d : Nat) (h : NoW w p) (hp : ∀ S, p = some ⟨S, 0, none⟩ → S < w.heap.size) (hb : Below w.heap.size w W1) : Calls Try.prog 155 #[.pointer p, .slice a n c, .slice b m d] W1 (Ans1 w) :=
  (put_none W1 p a b n c m d (noW_below h hp hb)).mono fun _ _ ⟨h1, h2⟩ => by subst h2; exact ⟨h1, hb⟩
theorem nbytes (w : World) (p : Option Addr) (a : Option Addr) (m c : Nat) (hm : m ≤ 1099511627776) (h : NoW w p) (hp : ∀ S, p = some ⟨S, 0, none⟩ → S < w.heap.size) : Calls Try.prog 99 #[.pointer p, .slice a m c] w (Ans1 w) := by
  have C := WirS.hide (number_any w m (by omega) (by omega))
  have H := WirS.hide (fun W1 (hb1 : Below w.heap.size w W1) F => putn w W1 p (some ⟨F, 0, none⟩) a (nb m + 1) 9 m c h hp hb1)
  clear h hp
  go_enter Try.func99, Try.ntmps99
  go_wp2_with (first | ((go_at_call 156; refine (C.out).mono ?_; rintro e w1 ⟨F, rfl, hF, hx, hb⟩; have HX := WirS.hide hx; clear hx)) | ((go_at_call 155; refine (H.out _ hb _).mono ?_; rintro e w2 ⟨rfl, hs⟩; have HS := WirS.hide hs; clear hs)))
  go_ret
  exact ⟨rfl, HS.out⟩
theorem ntext (w : World) (p : Option Addr) (s : ByteArray) (hm : s.size ≤ 1099511627776) (h : NoW w p) (hp : ∀ S, p = some ⟨S, 0, none⟩ → S < w.heap.size) : Calls Try.prog 95 #[.pointer p, .string s] w (Ans1 w) := by
  have C := WirS.hide (number_any w s.size (by omega) (by omega))
  have hcv := fun W1 => Lib.run_convert_string_bytes (P := Try.prog) W1 9 32 5 s Try.underlying9 Try.underlying32 Try.underlying5
  have H := WirS.hide (fun W1 (hb1 : Below w.heap.size w W1) F => putn w (Lib.bytesWorld W1 5 s) p (some ⟨F, 0, none⟩) (some ⟨W1.heap.size, 0, none⟩) (nb s.size + 1) 9 s.size (grownCap W1 s.size 0 5) h hp (hb1.trans ((below_bw W1 s).mono hb1.size)))
  have hm2 : s.size ≤ 9223372036854775807 := by omega
  clear h hp
  go_enter Try.func95, Try.ntmps95
  go_wp2_with (first | ((go_at_call 156; refine (C.out).mono ?_; rintro e w1 ⟨F, rfl, hF, hx, hb⟩; have HX := WirS.hide hx; clear hx)) | ((go_at_call 155; refine (H.out _ hb _).mono ?_; rintro e w2 ⟨rfl, hs⟩; have HS := WirS.hide hs; clear hs)))
  go_ret
  exact ⟨rfl, HS.out⟩
theorem nhash (w : World) (p : Option Addr) (l : List Int) (h : NoW w p) (hp : ∀ S, p = some ⟨S, 0, none⟩ → S < w.heap.size) : Calls Try.prog 100 #[.pointer p, .agg (b8 l).toArray] w (Ans1 w) := by
  have H := WirS.hide (putn w (w.alloc (.cells (b8 l).toArray 34)) p (some ⟨w.heap.size, 0, none⟩) none 32 32 0 0 h hp (Below.alloc (Below.refl _ _) (Nat.le_refl _) _))
  clear h hp
  go_enter Try.func100, Try.ntmps100
  go_wp2_with ((go_at_call 155; refine (H.out).mono ?_; rintro e w2 ⟨rfl, hs⟩; have HS := WirS.hide hs; clear hs))
  go_ret
  exact ⟨rfl, HS.out⟩
theorem nkey (w : World) (p : Option Addr) (l : List Int) (h : NoW w p) (hp : ∀ S, p = some ⟨S, 0, none⟩ → S < w.heap.size) : Calls Try.prog 101 #[.pointer p, .agg (b8 l).toArray] w (Ans1 w) := by
  have H := WirS.hide (putn w (w.alloc (.cells (b8 l).toArray 36)) p (some ⟨w.heap.size, 0, none⟩) none 4 4 0 0 h hp (Below.alloc (Below.refl _ _) (Nat.le_refl _) _))
  clear h hp
  go_enter Try.func101, Try.ntmps101
  go_wp2_with ((go_at_call 155; refine (H.out).mono ?_; rintro e w2 ⟨rfl, hs⟩; have HS := WirS.hide hs; clear hs))
  go_ret
  exact ⟨rfl, HS.out⟩
theorem nbool (w : World) (p : Option Addr) (b : Bool) (h : NoW w p) (hp : ∀ S, p = some ⟨S, 0, none⟩ → S < w.heap.size) : Calls Try.prog 97 #[.pointer p, .bool b] w (Ans1 w) := by
  have H := WirS.hide (fun l : List Int => putn w (w.alloc (.cells (b8 l).toArray 228)) p (some ⟨w.heap.size, 0, none⟩) none 1 1 0 0 h hp (Below.alloc (Below.refl _ _) (Nat.le_refl _) _))
  have H1 := WirS.hide (H.out (boolB b))
  clear h hp H
  cases b
  all_goals
    go_enter Try.func97, Try.ntmps97
    go_wp2_with ((go_at_call 155; refine (H1.out).mono ?_; rintro e w2 ⟨rfl, hs⟩; have HS := WirS.hide hs; clear hs))
    go_ret
    exact ⟨rfl, HS.out⟩
set_option maxHeartbeats 1000000 in
theorem nword (w : World) (p : Option Addr) (n : Int) (h0 : 0 ≤ n) (h1 : n < 18446744073709551616) (h : NoW w p) (hp : ∀ S, p = some ⟨S, 0, none⟩ → S < w.heap.size) : Calls Try.prog 96 #[.pointer p, .int .u64 n] w (Ans1 w) := by
  have C := WirS.hide (counted_any w n 8 (by omega) h0 h1)
  have HH := WirS.hide (fun W1 F (hb : Below w.heap.size w W1) => putn w W1 p (some ⟨F, 1, none⟩) none 8 8 0 0 h hp hb)
  have hs := sl9l
  clear h hp
  go_enter Try.func96, Try.ntmps96
  go_upto_region 1 with fail
  refine wp_region_lit ?_
  refine sV (.int .u64 n) (w) (by kernel_rfl) (by kernel_rfl) ?_
  simp only [Act.put, List.setIfInBounds_toArray, List.set_cons_succ, List.set_cons_zero]
  refine sC (by kernel_rfl) (by kernel_rfl) C.out ?_
  rintro w2 hb2
  simp only [Act.put, List.setIfInBounds_toArray, List.set_cons_succ, List.set_cons_zero]
  obtain ⟨F, hF⟩ : ∃ F, F = w2.heap.size := ⟨_, rfl⟩
  refine sV (.pointer (some ⟨w2.heap.size, 0, none⟩)) (w2.alloc (.cells (b8 z9).toArray 226)) (by kernel_rfl) (al9 _ _ rfl w2) ?_
  simp only [Act.put, List.setIfInBounds_toArray, List.set_cons_succ, List.set_cons_zero]
  refine stepStore (by rfl) _ _ _ (by rfl) _ (b8 (cp n 8 8)) (by kernel_rfl) (by kernel_rfl) (At.new w2 226 (b8 z9)) 9 (by kernel_rfl) (by rw [b8_len]; rfl) (by rw [b8_len, cp_len]) (all_oneCell_toArray (one_b8 _)) ?_
  obtain ⟨W3, eW⟩ : ∃ X, X = (w2.alloc (.cells (b8 z9).toArray 226)).setRow w2.heap.size (b8 (cp n 8 8)).toArray := ⟨_, rfl⟩
  have hB : Below w2.heap.size w2 W3 := by rw [eW]; exact Below.setRowOwn (Below.alloc (Below.refl _ _) (Nat.le_refl _) _) (Nat.le_refl _) _
  rw [← eW, ← hF]
  have K := WirS.hide (HH.out W3 F (hb2.trans (hB.mono hb2.size)))
  have hs := hs F
  clear eW hB hF hb2 C HH
  go_wp2_with ((go_at_call 155; refine (K.out).mono ?_; rintro e w4 ⟨rfl, hs⟩; have HS := WirS.hide hs; clear hs))
  go_ret
  exact ⟨rfl, HS.out⟩
theorem npace (w : World) (p : Option Addr) (x : Nat) (hx : x < 18446744073709551616) (h : NoW w p) (hp : ∀ S, p = some ⟨S, 0, none⟩ → S < w.heap.size) : Calls Try.prog 102 #[.pointer p, .float .f64 x] w (Ans1 w) := by
  have hc := canon_lt hx
  have H := WirS.hide (nword w p (canon x : Int) (by omega) (by omega) h hp)
  have C := WirS.hide (fun W => bits_any x W)
  clear h hp
  go_enter Try.func102, Try.ntmps102
  go_wp2_with (first | ((go_at_call 191; refine (C.out _).mono ?_; rintro e w1 ⟨rfl, rfl⟩)) | ((go_at_call 96; refine (H.out).mono ?_; rintro e w1 ⟨rfl, hs⟩; have HS := WirS.hide hs; clear hs)))
  go_ret
  exact ⟨rfl, HS.out⟩
/-- A thing, as it comes in. -/
structure Wf (w : World) (t : Td) (va : Option Addr) (vn vc : Nat) (zs : List Int) : Prop where
  hv : t.v = .slice va vn vc
  bin : BIn w (.slice va vn vc) zs
  rz : ∀ x ∈ zs, 0 ≤ x ∧ x < 256
  n0 : -9223372036854775808 ≤ t.n
  n1 : t.n ≤ 9223372036854775807
  u0 : 0 ≤ t.u
  u1 : t.u < 18446744073709551616
theorem Wf.len {w : World} {t : Td} {va : Option Addr} {vn vc : Nat} {zs : List Int} (h : Wf w t va vn vc zs) : vn = zs.length := by
  obtain ⟨_, _, e, _⟩ := h.bin
  cases e
  rfl
theorem Wf.more {w W U : World} {t : Td} {va : Option Addr} {vn vc : Nat} {zs : List Int} (h : Wf w t va vn vc zs) (hU : Below W.heap.size W U) (hW : Below w.heap.size w W) : Wf U t va vn vc zs :=
  ⟨h.hv, h.bin.below (hW.trans (hU.mono hW.size)), h.rz, h.n0, h.n1, h.u0, h.u1⟩
theorem st_size (zs : List Int) : (st zs).size = zs.length := by
  show (strOfNums zs).data.size = _
  simp [strOfNums]
theorem puts_none (w : World) (p : Option Addr) (t : Td) (va : Option Addr) (vn vc : Nat) (zs : List Int) (ht : Wf w t va vn vc zs) (hn : vn ≤ 1099511627776) (h : NoW w p) (hp : ∀ S, p = some ⟨S, 0, none⟩ → S < w.heap.size) (hk : 0 ≤ t.kd ∧ t.kd ≤ 7) :
    Calls Try.prog 23 #[.pointer p, .agg t.cells.toArray] w (Ans1 w) := by
  have hb := PW_below w t
  have h' := noW_below h hp hb
  have hp' : ∀ S, p = some ⟨S, 0, none⟩ → S < (PW w t).heap.size := fun S hS => Nat.lt_of_lt_of_le (hp S hS) hb.size
  have back : ∀ f args, Calls Try.prog f args (PW w t) (Ans1 (PW w t)) → Calls Try.prog f args (PW w t) (Ans 1 (Below w.heap.size w)) := fun f args hc => hc.mono fun _ _ ⟨h1, h2⟩ => ⟨h1, hb.trans (h2.mono hb.size)⟩
  have hl := ht.len
  obtain ⟨x, hx⟩ := Int.eq_ofNat_of_zero_le ht.u0
  have hu1 := ht.u1
  have hn0 := ht.n0
  have hn1 := ht.n1
  obtain h | h | h | h | h | h | h | h : t.kd = 0 ∨ t.kd = 1 ∨ t.kd = 2 ∨ t.kd = 3 ∨ t.kd = 4 ∨ t.kd = 5 ∨ t.kd = 6 ∨ t.kd = 7 := by omega
  · exact puts0 w p t va vn vc ht.hv h _ _ (back _ _ (num_none _ p t.n (by omega) (by omega) h' hp'))
  · exact puts1 w p t va vn vc ht.hv zs ht.bin h _ _ (back _ _ (ntext _ p (st zs) (by rw [st_size]; omega) h' hp'))
  · exact puts2 w p t va vn vc ht.hv h _ _ (back _ _ (nbytes _ p va vn vc hn h' hp'))
  · exact puts3 w p t h _ _ (back _ _ (nhash _ p t.h h' hp'))
  · exact puts4 w p t h _ _ (back _ _ (nkey _ p t.k h' hp'))
  · exact puts5 w p t va vn vc ht.hv h _ _ (back _ _ (nword _ p t.u ht.u0 ht.u1 h' hp'))
  · exact puts6 w p t x hx h _ _ (back _ _ (npace _ p x (by omega) h' hp'))
  · exact puts7 w p t va vn vc ht.hv h _ _ (back _ _ (nbool _ p t.is h' hp'))
end WirNA
end Go.Proofs.Ythcemghamdmjmaa

namespace Go.Proofs.Ythcemghamdmjmaa
namespace WirNB
open Go.RowKit PaceA FltC
open BlkM WirM WirS WirA WirB WirC WirD WirE WirF WirG WirH WirI WirJ WirK WirL WirN WirO WirP WirQ WirR WirT WirU WirV WirW WirX WirZ WirNA

def MidN (W : World) (i : Value) (U : World) : Prop := ∃ k : Nat, k ≤ 2 ∧ i = .int .i64 (k : Int) ∧ Below W.heap.size W U
def zW : List Value := [.pointer none, .int .i64 0, .slice none 0 0, .int .i64 0]
def zR : List Value := [.pointer none, .slice none 0 0, .int .i64 0, .int .i64 0, .int .i64 0]
/-- The world behind the two lists. -/
def NW (u : World) (z : Nat) : World :=
  (((u.alloc (.cells zW.toArray 59)).alloc (.cells #[.pointer none, .pointer (some ⟨z, 0, none⟩)] 25)).alloc (.cells zR.toArray 62)).alloc (.cells #[.pointer none, .pointer (some ⟨z + 1 + 1, 0, none⟩)] 48)
theorem NW_all (u : World) (z : Nat) (hz : u.heap.size = z) : Below u.heap.size u (NW u z) ∧ At (NW u z) z 59 zW ∧ At (NW u z) (z + 1) 25 [.pointer none, .pointer (some ⟨z, 0, none⟩)] ∧ At (NW u z) (z + 1 + 1) 62 zR ∧ At (NW u z) (z + 1 + 1 + 1) 48 [.pointer none, .pointer (some ⟨z + 1 + 1, 0, none⟩)] := by
  subst hz
  have s1 := World.size_alloc u (.cells zW.toArray 59)
  have s2 := World.size_alloc (u.alloc (.cells zW.toArray 59)) (.cells #[.pointer none, .pointer (some ⟨u.heap.size, 0, none⟩)] 25)
  have s3 := World.size_alloc ((u.alloc (.cells zW.toArray 59)).alloc (.cells #[.pointer none, .pointer (some ⟨u.heap.size, 0, none⟩)] 25)) (.cells zR.toArray 62)
  refine ⟨Below.alloc (Below.alloc (Below.alloc (Below.alloc (Below.refl _ _) (Nat.le_refl _) _) (by omega) _) (by omega) _) (by omega) _, ?_, ?_, ?_, ?_⟩
  · exact At.alloc (At.alloc (At.alloc (At.new u _ zW) _) _) _
  · have := At.new (u.alloc (.cells zW.toArray 59)) 25 [.pointer none, .pointer (some ⟨u.heap.size, 0, none⟩)]
    rw [s1] at this
    exact At.alloc (At.alloc this _) _
  · have := At.new ((u.alloc (.cells zW.toArray 59)).alloc (.cells #[.pointer none, .pointer (some ⟨u.heap.size, 0, none⟩)] 25)) 62 zR
    rw [s2, s1] at this
    exact At.alloc this _
  · have := At.new (((u.alloc (.cells zW.toArray 59)).alloc (.cells #[.pointer none, .pointer (some ⟨u.heap.size, 0, none⟩)] 25)).alloc (.cells zR.toArray 62)) 48 [.pointer none, .pointer (some ⟨u.heap.size + 1 + 1, 0, none⟩)]
    rw [s3, s2, s1] at this
    exact this
theorem rangeAll {w : World} {b : Nat} {T : TypeId} {cs : List Value} (h : At w b T cs) : w.rangeAt b 0 cs := fun j v hj => by
  rw [h.cell, Nat.zero_add]
  exact hj
theorem neqH (U : World) : (binOp .neq 34 (.agg #[.int .u8 0, .int .u8 0, .int .u8 0, .int .u8 0, .int .u8 0, .int .u8 0, .int .u8 0, .int .u8 0, .int .u8 0, .int .u8 0, .int .u8 0, .int .u8 0, .int .u8 0, .int .u8 0, .int .u8 0, .int .u8 0, .int .u8 0, .int .u8 0, .int .u8 0, .int .u8 0, .int .u8 0, .int .u8 0, .int .u8 0, .int .u8 0, .int .u8 0, .int .u8 0, .int .u8 0, .int .u8 0, .int .u8 0, .int .u8 0, .int .u8 0, .int .u8 0]) (.agg #[.int .u8 0, .int .u8 0, .int .u8 0, .int .u8 0, .int .u8 0, .int .u8 0, .int .u8 0, .int .u8 0, .int .u8 0, .int .u8 0, .int .u8 0, .int .u8 0, .int .u8 0, .int .u8 0, .int .u8 0, .int .u8 0, .int .u8 0, .int .u8 0, .int .u8 0, .int .u8 0, .int .u8 0, .int .u8 0, .int .u8 0, .int .u8 0, .int .u8 0, .int .u8 0, .int .u8 0, .int .u8 0, .int .u8 0, .int .u8 0, .int .u8 0, .int .u8 0])).run Try.prog U = .ok (.bool false) U := by kernel_rfl
theorem neqK (U : World) : (binOp .neq 36 (.agg #[.int .u8 0, .int .u8 0, .int .u8 0, .int .u8 0]) (.agg #[.int .u8 0, .int .u8 0, .int .u8 0, .int .u8 0])).run Try.prog U = .ok (.bool false) U := by kernel_rfl
theorem neqF (U : World) : (binOp .neq 55 (.agg #[.int .i64 1, .int .i64 0]) (.agg #[.int .i64 1, .int .i64 0])).run Try.prog U = .ok (.bool false) U := by kernel_rfl
/-- A call that only makes memory. -/
def Mem (w : World) (v : Value) (e : Ending) (w' : World) : Prop := e = .returned v ∧ Below w.heap.size w w'
set_option maxRecDepth 10000 in
set_option maxHeartbeats 4000000 in
theorem none_any (w : World) (t : Td) (va : Option Addr) (vn vc : Nat) (zs : List Int) (ht : Wf w t va vn vc zs) :
    Calls Try.prog 5 #[.agg t.cells.toArray] w fun e w' => e = .returned (.bool true) ∧ Below w.heap.size w w' := by
  obtain ⟨W0, e0⟩ : ∃ X, X = PW w t := ⟨_, rfl⟩
  have hA0 : At W0 w.heap.size 39 t.cells := by rw [e0]; exact PW_at _ _
  have hB0 : Below w.heap.size w W0 := by rw [e0]; exact PW_below _ _
  have c2 : W0.cell? ⟨w.heap.size, 2, none⟩ = some (.slice va vn vc) := by rw [hA0.cell, ← ht.hv]; rfl
  have HB0 := WirS.hide hB0
  have E0 := WirS.hide e0
  by_cases h300 : vn ≤ 300
  · have t0 : ¬ (300 : Int) < (vn : Int) := by omega
    obtain ⟨z, hz⟩ : ∃ z, W0.heap.size = z := ⟨_, rfl⟩
    obtain ⟨W, eW⟩ : ∃ X, X = NW W0 z := ⟨_, rfl⟩
    obtain ⟨nb, n1, n2, n3, n4⟩ := NW_all W0 z hz
    rw [← eW] at nb n1 n2 n3 n4
    have hzw : w.heap.size < z := by rw [← hz]; exact hA0.lt
    have EW := WirS.hide eW
    have HZ := WirS.hide hz
    have HA := WirS.hide (hA0.below nb hA0.lt)
    have HBW := WirS.hide (HB0.out.trans (nb.mono HB0.out.size))
    have N1 := WirS.hide n1
    have N2 := WirS.hide n2
    have N3 := WirS.hide n3
    have N4 := WirS.hide n4
    have HT := WirS.hide ht
    have HL := WirS.hide h300
    clear hA0 hB0 e0 eW nb n1 n2 n3 n4 hz ht h300
    go_enter Try.func5, Try.ntmps5
    go_upto_region 1 with fail
    rw [show w.alloc (.cells t.cells.toArray 39) = W0 from E0.out.symm]
    go_upto_region 4 with fail
    rw [show (((W0.alloc (.cells #[.pointer none, .int .i64 0, .slice none 0 0, .int .i64 0] 59)).alloc (.cells #[.pointer none, .pointer (some ⟨W0.heap.size, 0, none⟩)] 25)).alloc (.cells #[.pointer none, .slice none 0 0, .int .i64 0, .int .i64 0, .int .i64 0] 62)).alloc (.cells #[.pointer none, .pointer (some ⟨W0.heap.size + 1 + 1, 0, none⟩)] 48) = W by rw [HZ.out]; exact EW.out.symm, HZ.out]
    go_wp2_with fail
    go_loopw [5] (fun i wr => MidN W i wr) (fun i _ => 2 - (intOf i).toNat)
    case atStart => exact ⟨0, by omega, rfl, Below.refl _ _⟩
    case round =>
      obtain ⟨k, hk, rfl, hB⟩ := hrel
      by_cases hlt : k < 2
      · have hk2 : (k : Int) < 2 := by omega
        obtain ⟨p, q, hp, hq, hp2, hq2, hps, hqs⟩ : ∃ p q : Option Addr, (∀ U, Below W.heap.size W U → U.cell? ⟨z + 1, k, none⟩ = some (.pointer p)) ∧ (∀ U, Below W.heap.size W U → U.cell? ⟨z + 1 + 1 + 1, k, none⟩ = some (.pointer q)) ∧ (∀ U, Below W.heap.size W U → NoW U p) ∧ (∀ U, Below W.heap.size W U → NoR U q) ∧ (∀ S, p = some ⟨S, 0, none⟩ → S < W.heap.size) ∧ (∀ S, q = some ⟨S, 0, none⟩ → S < W.heap.size) := by
          have h1 := fun U (hU : Below W.heap.size W U) => (N2.out.below hU N2.out.lt).cell k
          have h2 := fun U (hU : Below W.heap.size W U) => (N4.out.below hU N4.out.lt).cell k
          match k, hlt with
          | 0, _ => exact ⟨none, none, h1, h2, fun U _ => .inl rfl, fun U _ => .inl rfl, (fun S h => by cases h), (fun S h => by cases h)⟩
          | 1, _ => exact ⟨some ⟨z, 0, none⟩, some ⟨z + 1 + 1, 0, none⟩, h1, h2, fun U hU => .inr ⟨z, rfl, (N1.out.below hU N1.out.lt).cell 0⟩, fun U hU => .inr ⟨z + 1 + 1, rfl, (N3.out.below hU N3.out.lt).cell 0⟩, (fun S h => by cases h; exact N1.out.lt), (fun S h => by cases h; exact N3.out.lt)⟩
        have cp := hp wr hB
        have cq := hq wr hB
        have NP := WirS.hide hp2
        have NQ := WirS.hide hq2
        have PS := WirS.hide hps
        have QS := WirS.hide hqs
        have HB := WirS.hide hB
        clear hp hq hp2 hq2 hps hqs hB
        go_upto_region 7 with fail
        go_quiet (fail)
        obtain ⟨U1, eU1⟩ : ∃ X, X = wr.drewN nq := ⟨_, rfl⟩
        rw [← eU1]
        have HB1 := WirS.hide (show Below W.heap.size W U1 by rw [eU1]; exact below_drewN HB.out nq)
        have HN := WirS.hide (fun U (hU : Below W.heap.size W U) => show U.cell? ⟨w.heap.size, 1, none⟩ = some (.int .i64 t.n) from (HA.out.below hU HA.out.lt).cell 1)
        clear eU1 cp cq HB
        have HB := WirS.hide HB1.out
        clear HB1
        have c0 : U1.cell? ⟨w.heap.size, 0, none⟩ = some (.int .i64 t.kd) := (HA.out.below HB.out HA.out.lt).cell 0
        have nH := neqH
        have nK := neqK
        have nF := neqF
        go_upto_region 9 with ((go_at_call 27; refine (done_none _ p (NP.out _ HB.out)).mono ?_; rintro e u1 ⟨rfl, rfl⟩))
        by_cases hkd : 0 ≤ t.kd ∧ t.kd ≤ 7
        · obtain ⟨hk0, hk7⟩ := hkd
          have HP := WirS.hide (puts_none U1 p t va vn vc zs (HT.out.more HB.out HBW.out) (by have := HL.out; omega) (NP.out _ HB.out) (fun S hS => Nat.lt_of_lt_of_le (PS.out S hS) HB.out.size) ⟨hk0, hk7⟩)
          have g1 : (binOp .geq 3 (.int .i64 t.kd) (.int .i64 0)).run Try.prog U1 = .ok (.bool true) U1 := by simp [binOp, Op.intCmp, hk0]
          have g2 : (binOp .leq 3 (.int .i64 t.kd) (.int .i64 7)).run Try.prog U1 = .ok (.bool true) U1 := by simp [binOp, Op.intCmp, hk7]
          refine wp_region_lit ?_
          refine sV (.slice none 0 0) (U1) (by kernel_rfl) (by kernel_rfl) ?_
          simp only [Act.put, List.setIfInBounds_toArray, List.set_cons_succ, List.set_cons_zero]
          refine sV (.int .i64 0) (U1) (by kernel_rfl) (by kernel_rfl) ?_
          simp only [Act.put, List.setIfInBounds_toArray, List.set_cons_succ, List.set_cons_zero]
          refine sV (.bool false) (U1) (by kernel_rfl) (by kernel_rfl) ?_
          simp only [Act.put, List.setIfInBounds_toArray, List.set_cons_succ, List.set_cons_zero]
          refine sV (.bool false) (U1) (by kernel_rfl) (by kernel_rfl) ?_
          simp only [Act.put, List.setIfInBounds_toArray, List.set_cons_succ, List.set_cons_zero]
          refine sV (.int .i64 1) (U1) (by kernel_rfl) (by kernel_rfl) ?_
          simp only [Act.put, List.setIfInBounds_toArray, List.set_cons_succ, List.set_cons_zero]
          refine sV (.bool false) (U1) (by kernel_rfl) (by kernel_rfl) ?_
          simp only [Act.put, List.setIfInBounds_toArray, List.set_cons_succ, List.set_cons_zero]
          refine sV (.bool false) (U1) (by kernel_rfl) (by kernel_rfl) ?_
          simp only [Act.put, List.setIfInBounds_toArray, List.set_cons_succ, List.set_cons_zero]
          refine sV (.bool false) (U1) (by kernel_rfl) (by kernel_rfl) ?_
          simp only [Act.put, List.setIfInBounds_toArray, List.set_cons_succ, List.set_cons_zero]
          refine sV (.pointer (some ⟨w.heap.size, 0, none⟩)) (U1) (by kernel_rfl) (by kernel_rfl) ?_
          simp only [Act.put, List.setIfInBounds_toArray, List.set_cons_succ, List.set_cons_zero]
          refine sP (by kernel_rfl) _ _ (by rfl) ⟨w.heap.size, 0, none⟩ (by kernel_rfl) (.int .i64 t.kd) c0 (by kernel_rfl) ?_
          simp only [Act.put, List.setIfInBounds_toArray, List.set_cons_succ, List.set_cons_zero]
          refine sB (by kernel_rfl) .geq _ _ _ _ (by rfl) (.int .i64 t.kd) (.int .i64 0) (by kernel_rfl) (by kernel_rfl) (.bool true) g1 (by kernel_rfl) ?_
          simp only [Act.put, List.setIfInBounds_toArray, List.set_cons_succ, List.set_cons_zero]
          refine sV (.bool true) (U1) (by kernel_rfl) (by kernel_rfl) ?_
          simp only [Act.put, List.setIfInBounds_toArray, List.set_cons_succ, List.set_cons_zero]
          refine sV (.pointer (some ⟨w.heap.size, 0, none⟩)) (U1) (by kernel_rfl) (by kernel_rfl) ?_
          simp only [Act.put, List.setIfInBounds_toArray, List.set_cons_succ, List.set_cons_zero]
          refine sP (by kernel_rfl) _ _ (by rfl) ⟨w.heap.size, 0, none⟩ (by kernel_rfl) (.int .i64 t.kd) c0 (by kernel_rfl) ?_
          simp only [Act.put, List.setIfInBounds_toArray, List.set_cons_succ, List.set_cons_zero]
          refine sB (by kernel_rfl) .leq _ _ _ _ (by rfl) (.int .i64 t.kd) (.int .i64 7) (by kernel_rfl) (by kernel_rfl) (.bool true) g2 (by kernel_rfl) ?_
          simp only [Act.put, List.setIfInBounds_toArray, List.set_cons_succ, List.set_cons_zero]
          refine sV (.bool true) (U1) (by kernel_rfl) (by kernel_rfl) ?_
          simp only [Act.put, List.setIfInBounds_toArray, List.set_cons_succ, List.set_cons_zero]
          refine sV (.bool true) (U1) (by kernel_rfl) (by kernel_rfl) ?_
          simp only [Act.put, List.setIfInBounds_toArray, List.set_cons_succ, List.set_cons_zero]
          refine sV (.pointer p) (U1) (by kernel_rfl) (by kernel_rfl) ?_
          simp only [Act.put, List.setIfInBounds_toArray, List.set_cons_succ, List.set_cons_zero]
          refine sL (by kernel_rfl) _ _ (by rfl) _ (by kernel_rfl) (HA.out.below HB.out HA.out.lt) _ 41 Try.underlying39 rfl (by kernel_rfl) t.len ?_
          simp only [Act.put, List.setIfInBounds_toArray, List.set_cons_succ, List.set_cons_zero]
          refine sC (v := .int .i64 1) (R := fun w' => Below U1.heap.size U1 w') (by kernel_rfl) (by kernel_rfl) HP.out ?_
          intro u9 hb9
          simp only [Act.put, List.setIfInBounds_toArray, List.set_cons_succ, List.set_cons_zero]
          have HX := WirS.hide (HB.out.trans (hb9.mono HB.out.size))
          clear hb9 HP c0 g1 g2 HB
          have HB := WirS.hide HX.out
          clear HX
          refine sV (.bool false) (u9) (by kernel_rfl) (by kernel_rfl) ?_
          simp only [Act.put, List.setIfInBounds_toArray, List.set_cons_succ, List.set_cons_zero]
          refine sV (.bool false) (u9) (by kernel_rfl) (by kernel_rfl) ?_
          simp only [Act.put, List.setIfInBounds_toArray, List.set_cons_succ, List.set_cons_zero]
          refine sV (.bool false) (u9) (by kernel_rfl) (by kernel_rfl) ?_
          simp only [Act.put, List.setIfInBounds_toArray, List.set_cons_succ, List.set_cons_zero]
          have cN0 := HN.out _ HB.out
          go_wp2_with (first | ((go_at_call 37; refine (num_none _ q (NQ.out _ HB.out) (fun S hS => Nat.lt_of_lt_of_le (QS.out S hS) HB.out.size)).mono ?_; rintro e u1 ⟨rfl, hb⟩; have HX := WirS.hide (HB.out.trans (hb.mono HB.out.size)); clear hb HB; have HB := WirS.hide HX.out; clear HX; have cN := HN.out _ HB.out)) | ((go_at_call 38; refine (text_none _ q t.n (NQ.out _ HB.out) (fun S hS => Nat.lt_of_lt_of_le (QS.out S hS) HB.out.size)).mono ?_; rintro e u1 ⟨rfl, hb⟩; have HX := WirS.hide (HB.out.trans (hb.mono HB.out.size)); clear hb HB; have HB := WirS.hide HX.out; clear HX; have cN := HN.out _ HB.out)) | ((go_at_call 39; refine (bytes_none _ q t.n (NQ.out _ HB.out) (fun S hS => Nat.lt_of_lt_of_le (QS.out S hS) HB.out.size)).mono ?_; rintro e u1 ⟨rfl, hb⟩; have HX := WirS.hide (HB.out.trans (hb.mono HB.out.size)); clear hb HB; have HB := WirS.hide HX.out; clear HX)) | ((go_at_call 40; refine ((show Calls _ _ _ _ (Mem _ (.agg #[.int .u8 0, .int .u8 0, .int .u8 0, .int .u8 0, .int .u8 0, .int .u8 0, .int .u8 0, .int .u8 0, .int .u8 0, .int .u8 0, .int .u8 0, .int .u8 0, .int .u8 0, .int .u8 0, .int .u8 0, .int .u8 0, .int .u8 0, .int .u8 0, .int .u8 0, .int .u8 0, .int .u8 0, .int .u8 0, .int .u8 0, .int .u8 0, .int .u8 0, .int .u8 0, .int .u8 0, .int .u8 0, .int .u8 0, .int .u8 0, .int .u8 0, .int .u8 0])) from hash_none _ q (NQ.out _ HB.out) (fun S hS => Nat.lt_of_lt_of_le (QS.out S hS) HB.out.size))).mono ?_; rintro e u1 ⟨rfl, hb⟩; have HX := WirS.hide (HB.out.trans (hb.mono HB.out.size)); clear hb HB; have HB := WirS.hide HX.out; clear HX)) | ((go_at_call 41; refine ((show Calls _ _ _ _ (Mem _ (.agg #[.int .u8 0, .int .u8 0, .int .u8 0, .int .u8 0])) from key_none _ q (NQ.out _ HB.out) (fun S hS => Nat.lt_of_lt_of_le (QS.out S hS) HB.out.size))).mono ?_; rintro e u1 ⟨rfl, hb⟩; have HX := WirS.hide (HB.out.trans (hb.mono HB.out.size)); clear hb HB; have HB := WirS.hide HX.out; clear HX)) | ((go_at_call 42; refine (word_none _ q (NQ.out _ HB.out) (fun S hS => Nat.lt_of_lt_of_le (QS.out S hS) HB.out.size)).mono ?_; rintro e u1 ⟨rfl, hb⟩; have HX := WirS.hide (HB.out.trans (hb.mono HB.out.size)); clear hb HB; have HB := WirS.hide HX.out; clear HX)) | ((go_at_call 43; refine (pace_none _ q (NQ.out _ HB.out) (fun S hS => Nat.lt_of_lt_of_le (QS.out S hS) HB.out.size)).mono ?_; rintro e u1 ⟨rfl, hb⟩; have HX := WirS.hide (HB.out.trans (hb.mono HB.out.size)); clear hb HB; have HB := WirS.hide HX.out; clear HX)) | ((go_at_call 44; refine (bool_none _ q (NQ.out _ HB.out) (fun S hS => Nat.lt_of_lt_of_le (QS.out S hS) HB.out.size)).mono ?_; rintro e u1 ⟨rfl, hb⟩; have HX := WirS.hide (HB.out.trans (hb.mono HB.out.size)); clear hb HB; have HB := WirS.hide HX.out; clear HX)) | ((go_at_call 33; refine (rest_none _ q (NQ.out _ HB.out)).mono ?_; rintro e u1 ⟨rfl, rfl⟩)) | ((go_at_call 35; refine ((show Calls _ _ _ _ (Mem _ (.agg #[.int .i64 1, .int .i64 0])) from end_none _ q (NQ.out _ HB.out) (fun S hS => Nat.lt_of_lt_of_le (QS.out S hS) HB.out.size))).mono ?_; rintro e u1 ⟨rfl, hb⟩; have HX := WirS.hide (HB.out.trans (hb.mono HB.out.size)); clear hb HB; have HB := WirS.hide HX.out; clear HX)))
          go_roundw
          case rel => exact ⟨k + 1, by omega, by go_num, HB.out⟩
          case measure => simp [intOf]; omega
        · have hkk : t.kd < 0 ∨ (0 ≤ t.kd ∧ 7 < t.kd) := by omega
          have cN0 := HN.out _ HB.out
          rcases hkk with hneg | ⟨hk0, hk7⟩
          · clear hkd
            go_wp2_with (first | ((go_at_call 37; refine (num_none _ q (NQ.out _ HB.out) (fun S hS => Nat.lt_of_lt_of_le (QS.out S hS) HB.out.size)).mono ?_; rintro e u1 ⟨rfl, hb⟩; have HX := WirS.hide (HB.out.trans (hb.mono HB.out.size)); clear hb HB; have HB := WirS.hide HX.out; clear HX; have cN := HN.out _ HB.out)) | ((go_at_call 38; refine (text_none _ q t.n (NQ.out _ HB.out) (fun S hS => Nat.lt_of_lt_of_le (QS.out S hS) HB.out.size)).mono ?_; rintro e u1 ⟨rfl, hb⟩; have HX := WirS.hide (HB.out.trans (hb.mono HB.out.size)); clear hb HB; have HB := WirS.hide HX.out; clear HX; have cN := HN.out _ HB.out)) | ((go_at_call 39; refine (bytes_none _ q t.n (NQ.out _ HB.out) (fun S hS => Nat.lt_of_lt_of_le (QS.out S hS) HB.out.size)).mono ?_; rintro e u1 ⟨rfl, hb⟩; have HX := WirS.hide (HB.out.trans (hb.mono HB.out.size)); clear hb HB; have HB := WirS.hide HX.out; clear HX)) | ((go_at_call 40; refine ((show Calls _ _ _ _ (Mem _ (.agg #[.int .u8 0, .int .u8 0, .int .u8 0, .int .u8 0, .int .u8 0, .int .u8 0, .int .u8 0, .int .u8 0, .int .u8 0, .int .u8 0, .int .u8 0, .int .u8 0, .int .u8 0, .int .u8 0, .int .u8 0, .int .u8 0, .int .u8 0, .int .u8 0, .int .u8 0, .int .u8 0, .int .u8 0, .int .u8 0, .int .u8 0, .int .u8 0, .int .u8 0, .int .u8 0, .int .u8 0, .int .u8 0, .int .u8 0, .int .u8 0, .int .u8 0, .int .u8 0])) from hash_none _ q (NQ.out _ HB.out) (fun S hS => Nat.lt_of_lt_of_le (QS.out S hS) HB.out.size))).mono ?_; rintro e u1 ⟨rfl, hb⟩; have HX := WirS.hide (HB.out.trans (hb.mono HB.out.size)); clear hb HB; have HB := WirS.hide HX.out; clear HX)) | ((go_at_call 41; refine ((show Calls _ _ _ _ (Mem _ (.agg #[.int .u8 0, .int .u8 0, .int .u8 0, .int .u8 0])) from key_none _ q (NQ.out _ HB.out) (fun S hS => Nat.lt_of_lt_of_le (QS.out S hS) HB.out.size))).mono ?_; rintro e u1 ⟨rfl, hb⟩; have HX := WirS.hide (HB.out.trans (hb.mono HB.out.size)); clear hb HB; have HB := WirS.hide HX.out; clear HX)) | ((go_at_call 42; refine (word_none _ q (NQ.out _ HB.out) (fun S hS => Nat.lt_of_lt_of_le (QS.out S hS) HB.out.size)).mono ?_; rintro e u1 ⟨rfl, hb⟩; have HX := WirS.hide (HB.out.trans (hb.mono HB.out.size)); clear hb HB; have HB := WirS.hide HX.out; clear HX)) | ((go_at_call 43; refine (pace_none _ q (NQ.out _ HB.out) (fun S hS => Nat.lt_of_lt_of_le (QS.out S hS) HB.out.size)).mono ?_; rintro e u1 ⟨rfl, hb⟩; have HX := WirS.hide (HB.out.trans (hb.mono HB.out.size)); clear hb HB; have HB := WirS.hide HX.out; clear HX)) | ((go_at_call 44; refine (bool_none _ q (NQ.out _ HB.out) (fun S hS => Nat.lt_of_lt_of_le (QS.out S hS) HB.out.size)).mono ?_; rintro e u1 ⟨rfl, hb⟩; have HX := WirS.hide (HB.out.trans (hb.mono HB.out.size)); clear hb HB; have HB := WirS.hide HX.out; clear HX)) | ((go_at_call 33; refine (rest_none _ q (NQ.out _ HB.out)).mono ?_; rintro e u1 ⟨rfl, rfl⟩)) | ((go_at_call 35; refine ((show Calls _ _ _ _ (Mem _ (.agg #[.int .i64 1, .int .i64 0])) from end_none _ q (NQ.out _ HB.out) (fun S hS => Nat.lt_of_lt_of_le (QS.out S hS) HB.out.size))).mono ?_; rintro e u1 ⟨rfl, hb⟩; have HX := WirS.hide (HB.out.trans (hb.mono HB.out.size)); clear hb HB; have HB := WirS.hide HX.out; clear HX)))
            go_roundw
            case rel => exact ⟨k + 1, by omega, by go_num, HB.out⟩
            case measure => simp [intOf]; omega
          · clear hkd
            go_wp2_with (first | ((go_at_call 37; refine (num_none _ q (NQ.out _ HB.out) (fun S hS => Nat.lt_of_lt_of_le (QS.out S hS) HB.out.size)).mono ?_; rintro e u1 ⟨rfl, hb⟩; have HX := WirS.hide (HB.out.trans (hb.mono HB.out.size)); clear hb HB; have HB := WirS.hide HX.out; clear HX; have cN := HN.out _ HB.out)) | ((go_at_call 38; refine (text_none _ q t.n (NQ.out _ HB.out) (fun S hS => Nat.lt_of_lt_of_le (QS.out S hS) HB.out.size)).mono ?_; rintro e u1 ⟨rfl, hb⟩; have HX := WirS.hide (HB.out.trans (hb.mono HB.out.size)); clear hb HB; have HB := WirS.hide HX.out; clear HX; have cN := HN.out _ HB.out)) | ((go_at_call 39; refine (bytes_none _ q t.n (NQ.out _ HB.out) (fun S hS => Nat.lt_of_lt_of_le (QS.out S hS) HB.out.size)).mono ?_; rintro e u1 ⟨rfl, hb⟩; have HX := WirS.hide (HB.out.trans (hb.mono HB.out.size)); clear hb HB; have HB := WirS.hide HX.out; clear HX)) | ((go_at_call 40; refine ((show Calls _ _ _ _ (Mem _ (.agg #[.int .u8 0, .int .u8 0, .int .u8 0, .int .u8 0, .int .u8 0, .int .u8 0, .int .u8 0, .int .u8 0, .int .u8 0, .int .u8 0, .int .u8 0, .int .u8 0, .int .u8 0, .int .u8 0, .int .u8 0, .int .u8 0, .int .u8 0, .int .u8 0, .int .u8 0, .int .u8 0, .int .u8 0, .int .u8 0, .int .u8 0, .int .u8 0, .int .u8 0, .int .u8 0, .int .u8 0, .int .u8 0, .int .u8 0, .int .u8 0, .int .u8 0, .int .u8 0])) from hash_none _ q (NQ.out _ HB.out) (fun S hS => Nat.lt_of_lt_of_le (QS.out S hS) HB.out.size))).mono ?_; rintro e u1 ⟨rfl, hb⟩; have HX := WirS.hide (HB.out.trans (hb.mono HB.out.size)); clear hb HB; have HB := WirS.hide HX.out; clear HX)) | ((go_at_call 41; refine ((show Calls _ _ _ _ (Mem _ (.agg #[.int .u8 0, .int .u8 0, .int .u8 0, .int .u8 0])) from key_none _ q (NQ.out _ HB.out) (fun S hS => Nat.lt_of_lt_of_le (QS.out S hS) HB.out.size))).mono ?_; rintro e u1 ⟨rfl, hb⟩; have HX := WirS.hide (HB.out.trans (hb.mono HB.out.size)); clear hb HB; have HB := WirS.hide HX.out; clear HX)) | ((go_at_call 42; refine (word_none _ q (NQ.out _ HB.out) (fun S hS => Nat.lt_of_lt_of_le (QS.out S hS) HB.out.size)).mono ?_; rintro e u1 ⟨rfl, hb⟩; have HX := WirS.hide (HB.out.trans (hb.mono HB.out.size)); clear hb HB; have HB := WirS.hide HX.out; clear HX)) | ((go_at_call 43; refine (pace_none _ q (NQ.out _ HB.out) (fun S hS => Nat.lt_of_lt_of_le (QS.out S hS) HB.out.size)).mono ?_; rintro e u1 ⟨rfl, hb⟩; have HX := WirS.hide (HB.out.trans (hb.mono HB.out.size)); clear hb HB; have HB := WirS.hide HX.out; clear HX)) | ((go_at_call 44; refine (bool_none _ q (NQ.out _ HB.out) (fun S hS => Nat.lt_of_lt_of_le (QS.out S hS) HB.out.size)).mono ?_; rintro e u1 ⟨rfl, hb⟩; have HX := WirS.hide (HB.out.trans (hb.mono HB.out.size)); clear hb HB; have HB := WirS.hide HX.out; clear HX)) | ((go_at_call 33; refine (rest_none _ q (NQ.out _ HB.out)).mono ?_; rintro e u1 ⟨rfl, rfl⟩)) | ((go_at_call 35; refine ((show Calls _ _ _ _ (Mem _ (.agg #[.int .i64 1, .int .i64 0])) from end_none _ q (NQ.out _ HB.out) (fun S hS => Nat.lt_of_lt_of_le (QS.out S hS) HB.out.size))).mono ?_; rintro e u1 ⟨rfl, hb⟩; have HX := WirS.hide (HB.out.trans (hb.mono HB.out.size)); clear hb HB; have HB := WirS.hide HX.out; clear HX)))
            go_roundw
            case rel => exact ⟨k + 1, by omega, by go_num, HB.out⟩
            case measure => simp [intOf]; omega
      · obtain rfl : k = 2 := by omega
        have HB := WirS.hide (HBW.out.trans (hB.mono HBW.out.size))
        clear hB
        go_wp2_with ((go_at_call 19; refine (awake_any _).mono ?_; rintro e w1 ⟨rfl, hb⟩))
        go_ret
        exact ⟨rfl, HB.out.trans (hb.mono HB.out.size)⟩
  · have t0 : (300 : Int) < (vn : Int) := by omega
    clear hA0 hB0 e0
    go_enter Try.func5, Try.ntmps5
    go_upto_region 1 with fail
    rw [show w.alloc (.cells t.cells.toArray 39) = W0 from E0.out.symm]
    go_wp2_with ((go_at_call 19; refine (awake_any _).mono ?_; rintro e w1 ⟨rfl, hb⟩))
    go_ret
    exact ⟨rfl, HB0.out.trans (hb.mono HB0.out.size)⟩
end WirNB
end Go.Proofs.Ythcemghamdmjmaa

namespace Go.Proofs.Ythcemghamdmjmaa
namespace WirO1
open Go.RowKit PaceA FltC Go.WideShapes Go.ChangeShapes Go.ChangeAt
open BlkM WirM WirS WirA WirB WirC WirD WirE WirF WirG WirH WirI WirJ WirK WirL WirN WirO WirP WirQ WirR WirT WirU WirV WirW WirX WirZ WirNA

section
variable {H : Type} {enc : TypeId × Value → H} {W : World}

theorem row8 {T : TypeId} {k : Nat} (hT : Try.prog.underlying T = some (.array k 5)) (hc : Try.prog.cellsOf T = k) {fuel : Nat} {cs : List Value} {x : DataW H × List MemPlace} (h : DataW.trod enc Try.prog W 0 (fun _ => true) true fuel T cs = some x) :
    ∃ l : List Int, cs = b8 l ∧ l.length = k ∧ ∀ x ∈ l, 0 ≤ x ∧ x < 256 := by
  have c1 : Try.prog.cellsOf 5 = 1 := by kernel_rfl
  obtain ⟨xs, m1, rfl, _, hlen, hn, hel⟩ := DataW.trod_array hT h
  simp only [c1, Nat.mul_one] at hel
  rw [hc] at hlen
  have key : ∀ i (hi : i < cs.length), ∃ z : Int, cs[i] = .int .u8 z ∧ 0 ≤ z ∧ z < 256 := by
    intro i hi
    have h1 := hel i (by omega)
    rw [List.getElem?_eq_getElem (show i < xs.length by omega)] at h1
    obtain ⟨z, e1, _, hw⟩ := DataW.trod_int Try.underlying5 h1
    have e : (cs.drop i).take 1 = [cs[i]] := by
      rw [List.drop_eq_getElem_cons hi]
      rfl
    rw [e] at e1
    refine ⟨z, by simpa using e1, ?_⟩
    simp [Lit.wf, IntKind.min, IntKind.max, IntKind.signed, IntKind.bits] at hw
    omega
  refine ⟨cs.map fun | .int _ z => z | _ => 0, ?_, by rw [List.length_map]; exact hlen, ?_⟩
  · apply List.ext_getElem
    · simp [b8]
    · intro i h1 h2
      obtain ⟨z, e, _⟩ := key i h1
      simp only [b8, List.getElem_map]
      rw [e]
  · intro x hx
    obtain ⟨c, hc, rfl⟩ := List.mem_map.1 hx
    obtain ⟨i, hi, rfl⟩ := List.getElem_of_mem hc
    obtain ⟨z, e, h0, h1⟩ := key i hi
    rw [e]
    exact ⟨h0, h1⟩

theorem b_some (W : World) (x : Addr) (l c : Nat) (zs : List Int) (hl : l ≤ c) (hz : zs.length = c) (hcell : ∀ i, i < zs.length → W.cell? (x.add i) = some (.int .u8 (zs.getD i 0))) (hwz : ∀ n ∈ zs, (Lit.int .u8 n).wf = true) :
    BIn W (.slice (some x) l c) (zs.take l) ∧ ∀ z ∈ zs.take l, 0 ≤ z ∧ z < 256 := by
  have hr : ∀ z ∈ zs, 0 ≤ z ∧ z < 256 := fun n hn => by
    have := hwz n hn
    simp [Lit.wf, IntKind.min, IntKind.max, IntKind.signed, IntKind.bits] at this
    omega
  have hlen : (zs.take l).length = l := by rw [List.length_take]; omega
  refine ⟨⟨some x, c, by rw [hlen], by omega, fun hne => ?_⟩, fun z h => hr z (List.mem_of_mem_take h)⟩
  have hpos : 0 < l := by
    rcases Nat.eq_zero_or_pos l with h | h
    · subst h; exact absurd (List.take_zero) hne
    · exact h
  obtain ⟨b, off, rfl, hc⟩ := Go.ints_at hcell (by omega)
  refine ⟨b, off, rfl, ?_, fun i hi => ?_⟩
  · have h0 := hc 0 (by omega)
    unfold World.cell? at h0
    rcases Nat.lt_or_ge b W.heap.size with h | h
    · exact h
    · have : W.heap[b]? = none := by simp [h]
      simp [this] at h0
  · rw [hlen] at hi
    rw [hc i (by omega)]
    simp [List.getD, hi]

theorem bytes_open {fuel : Nat} {cs : List Value} {x : DataW H × List MemPlace} (h : DataW.trod enc Try.prog W 0 (fun _ => true) true fuel 32 cs = some x) :
    ∃ va vn vc zs, cs = [.slice va vn vc] ∧ BIn W (.slice va vn vc) zs ∧ ∀ z ∈ zs, 0 ≤ z ∧ z < 256 := by
  rcases open_ints Try.underlying32 Try.underlying5 (by kernel_rfl) h with ⟨hcs, _⟩ | ⟨a, l, c, zs, hcs, _, hl, hm, hz, _, hcell, hwz⟩
  · exact ⟨none, 0, 0, [], hcs, BIn.nil W, fun x hx => absurd hx (by simp)⟩
  · obtain ⟨h1, h2⟩ := b_some W a l c zs hl (by simpa using hz) hcell hwz
    exact ⟨some a, l, c, zs.take l, hcs, h1, h2⟩
theorem part {cs : List Value} (n : Nat) {p : List Value} (k m : Nat) (h : (cs.drop n).take k = p) (e : n + k = m) : cs.drop n = p ++ cs.drop m := by
  subst h e
  rw [← List.drop_drop, List.take_append_drop]
theorem t_open {fuel : Nat} {cs : List Value} {x : DataW H × List MemPlace} (h : DataW.trod enc Try.prog W 0 (fun _ => true) true fuel 39 cs = some x) :
    ∃ (t : Td) (va : Option Addr) (vn vc : Nat) (zs : List Int), cs = t.cells ∧ Wf W t va vn vc zs ∧ (∀ z ∈ t.h, 0 ≤ z ∧ z < 256) ∧ ∀ z ∈ t.k, 0 ≤ z ∧ z < 256 := by
  have cI : Try.prog.cellsOf 3 = 1 := by kernel_rfl
  have cB : Try.prog.cellsOf 32 = 1 := by kernel_rfl
  have cH : Try.prog.cellsOf 34 = 32 := by kernel_rfl
  have cK : Try.prog.cellsOf 36 = 4 := by kernel_rfl
  have cU : Try.prog.cellsOf 37 = 1 := by kernel_rfl
  have cO : Try.prog.cellsOf 4 = 1 := by kernel_rfl
  have cT : Try.prog.cellsOf 39 = 41 := by kernel_rfl
  obtain ⟨xs, n, _, _, hl, hlen, hf⟩ := DataW.trod_struct Try.underlying39 h
  rw [cT] at hl
  have e0 := hf 0 _ rfl
  have e1 := hf 1 _ rfl
  have e2 := hf 2 _ rfl
  have e3 := hf 3 _ rfl
  have e4 := hf 4 _ rfl
  have e5 := hf 5 _ rfl
  have e6 := hf 6 _ rfl
  clear hf
  match xs, hlen with
  | [y0, y1, y2, y3, y4, y5, y6], _ =>
  obtain ⟨n0, p0, _, w0⟩ := DataW.trod_int Try.underlying3 e0
  obtain ⟨n1, p1, _, w1⟩ := DataW.trod_int Try.underlying3 e1
  obtain ⟨va, vn, vc, zs, p2, hb, hz⟩ := bytes_open e2
  obtain ⟨lh, p3, hlh, rh⟩ := row8 (k := 32) Try.underlying34 cH e3
  obtain ⟨lk, p4, hlk, rk⟩ := row8 (k := 4) Try.underlying36 cK e4
  obtain ⟨n5, p5, _, w5⟩ := DataW.trod_int Try.underlying37 e5
  obtain ⟨b6, p6, _⟩ := DataW.trod_bool Try.underlying4 e6
  have p0 : (cs.drop 0).take (Try.prog.cellsOf 3) = _ := p0
  have p1 : (cs.drop 1).take (Try.prog.cellsOf 3) = _ := p1
  have p2 : (cs.drop 2).take (Try.prog.cellsOf 32) = _ := p2
  have p3 : (cs.drop 3).take (Try.prog.cellsOf 34) = _ := p3
  have p4 : (cs.drop 35).take (Try.prog.cellsOf 36) = _ := p4
  have p5 : (cs.drop 39).take (Try.prog.cellsOf 37) = _ := p5
  have p6 : (cs.drop 40).take (Try.prog.cellsOf 4) = _ := p6
  rw [cI] at p0 p1
  rw [cB] at p2
  rw [cH] at p3
  rw [cK] at p4
  rw [cU] at p5
  rw [cO] at p6
  have q0 := part 0 1 1 p0 rfl
  have q1 := part 1 1 2 p1 rfl
  have q2 := part 2 1 3 p2 rfl
  have q3 := part 3 32 35 p3 rfl
  have q4 := part 35 4 39 p4 rfl
  have q5 := part 39 1 40 p5 rfl
  have q6 := part 40 1 41 p6 rfl
  have q7 : cs.drop 41 = [] := List.drop_eq_nil_of_le (by omega)
  rw [q1, q2, q3, q4, q5, q6, q7, List.drop_zero] at q0
  simp [Lit.wf, IntKind.min, IntKind.max, IntKind.signed, IntKind.bits] at w1 w5
  exact ⟨⟨n0, n1, .slice va vn vc, lh, lk, n5, b6, hlh, hlk⟩, va, vn, vc, zs, by simpa [Td.cells] using q0, ⟨rfl, hb, hz, by show _ ≤ n1; omega, by show n1 ≤ _; omega, by show 0 ≤ n5; omega, by show n5 < _; omega⟩, rh, rk⟩
set_option maxRecDepth 100000 in
theorem v_open {base : Nat} {v : Value} {d : DataW H} {p : List MemPlace} (hv : Value.okWide Try.prog W .any base 39 v) (h : DataW.Trod enc Try.prog W 0 (fun _ => true) true 39 v d p) :
    ∃ (t : Td) (va : Option Addr) (vn vc : Nat) (zs : List Int), v = .agg t.cells.toArray ∧ Wf W t va vn vc zs ∧ (∀ z ∈ t.h, 0 ≤ z ∧ z < 256) ∧ ∀ z ∈ t.k, 0 ≤ z ∧ z < 256 := by
  obtain ⟨cs, rfl, _⟩ := okWide_struct Try.underlying39 hv
  obtain ⟨fuel, hf⟩ := h
  obtain ⟨t, va, vn, vc, zs, e, hw⟩ := t_open hf
  have e' : cs.toList = t.cells := e
  refine ⟨t, va, vn, vc, zs, ?_, hw⟩
  rw [← e']
end
end WirO1
end Go.Proofs.Ythcemghamdmjmaa

namespace Go.Proofs.Ythcemghamdmjmaa
namespace WirRT
open Go.RowKit PaceA FltC
open BlkM WirM WirS WirA WirB WirC WirD WirE WirF WirG WirH WirI WirJ WirK WirL WirN WirO WirP WirQ WirR WirT WirU WirV WirW WirX WirZ WirNA

abbrev rng (zs : List Int) : Prop := ∀ x ∈ zs, 0 ≤ x ∧ x < 256
/-- The k last digits. -/
def dg (n : Int) : Nat → List Int
  | 0 => []
  | k + 1 => (n / 2 ^ (8 * k) % 256) :: dg n k
theorem dg_len (n : Int) : ∀ k, (dg n k).length = k
  | 0 => rfl
  | k + 1 => by rw [dg, List.length_cons, dg_len n k]
theorem dg_snoc (n : Int) : ∀ k, dg n (k + 1) = dg (n / 256) k ++ [n % 256]
  | 0 => by simp [dg]
  | k + 1 => by
    rw [dg, dg_snoc n k, dg, List.cons_append]
    congr 2
    rw [show (2 : Int) ^ (8 * (k + 1)) = 256 * 2 ^ (8 * k) by rw [show 8 * (k + 1) = 8 + 8 * k by omega, Int.pow_add]; rfl, Int.ediv_ediv_of_nonneg (by decide)]
theorem dg_vL (zs : List Int) (h : rng zs) : dg (vL zs) zs.length = zs := by
  obtain ⟨k, hk⟩ : ∃ k, k = zs.length := ⟨_, rfl⟩
  induction k generalizing zs with
  | zero => rw [← hk]; exact (List.length_eq_zero_iff.1 hk.symm).symm
  | succ k ih =>
    obtain ⟨ys, x, rfl⟩ : ∃ ys x, zs = ys ++ [x] := ⟨zs.dropLast, zs.getLast (by intro e; subst e; simp at hk), (List.dropLast_concat_getLast _).symm⟩
    have hy : k = ys.length := by simp at hk; omega
    have hx := h x (by simp)
    rw [← hk, dg_snoc, vL_snoc, show (vL ys * 256 + x) / 256 = vL ys by omega, show (vL ys * 256 + x) % 256 = x by omega, hy, ih ys (fun z hz => h z (by simp [hz])) hy]
theorem cp_dg (n : Int) (k : Nat) (hk : k ≤ 8) : ∀ i, i ≤ k → cp n k i = (k : Int) :: (List.replicate (k - i) 0 ++ (dg n i ++ List.replicate (8 - k) 0))
  | 0, _ => by rw [cp, dg, List.nil_append, Nat.sub_zero, List.replicate_append_replicate, show k + (8 - k) = 8 by omega]
  | i + 1, h => by
    obtain ⟨m, hm⟩ : ∃ m, k - i = m + 1 := ⟨k - i - 1, by omega⟩
    rw [cp, cp_dg n k hk i (by omega), hm, show k - (i + 1) = m by omega, List.set_cons_succ, List.replicate_succ', List.append_assoc, List.set_append, if_neg (by simp), List.length_replicate, Nat.sub_self, List.singleton_append, List.set_cons_zero, dg, List.cons_append]
theorem cp_full (n : Int) (k : Nat) (hk : k ≤ 8) : (cp n k k).take (k + 1) = (k : Int) :: dg n k := by
  rw [cp_dg n k hk k (Nat.le_refl _), Nat.sub_self, List.replicate_zero, List.nil_append, List.take_succ_cons, List.take_append_of_le_length (by rw [dg_len]; exact Nat.le_refl _), List.take_of_length_le (by rw [dg_len]; exact Nat.le_refl _)]
theorem wordB_dg (n : Int) : wordB n = dg n 8 := by
  unfold wordB
  rw [cp_dg n 8 (Nat.le_refl _) 8 (Nat.le_refl _)]
  simp
theorem vL_ge : ∀ (zs : List Int) (a : Int), 0 ≤ a → rng zs → a * 256 ^ zs.length ≤ zs.foldl (fun n x => n * 256 + x) a
  | [], a, _, _ => by simp
  | x :: l, a, h0, h => by
    have hx := h x (by simp)
    have ih := vL_ge l (a * 256 + x) (by omega) (fun z hz => h z (by simp [hz]))
    rw [List.foldl_cons, List.length_cons, Int.pow_succ]
    refine Int.le_trans ?_ ih
    rw [show a * (256 ^ l.length * 256) = (a * 256) * 256 ^ l.length by rw [Int.mul_comm (256 ^ l.length), ← Int.mul_assoc]]
    exact Int.mul_le_mul_of_nonneg_right (by omega) (Int.pow_nonneg (by decide))
theorem bl_pos (x : Nat) (h0 : x ≠ 0) (h : x < 2 ^ 64) : 1 ≤ Lib.bitLen x := by rw [Lib.bitLen_half x h0 h]; omega
theorem nb_vL (zs : List Int) (h : rng zs) (h8 : zs.length ≤ 8) (hd : zs ≠ [] → zs.getD 0 0 ≠ 0) : nb (vL zs) = zs.length := by
  match zs, hd with
  | [], _ => decide
  | d :: r, hd =>
    have hd1 : d ≠ 0 := hd (by simp)
    have hd0 := (h d (by simp)).1
    have hge := vL_ge r d hd0 (fun z hz => h z (by simp [hz]))
    have hlt := (vL_lt (d :: r) h).2
    have hnn := (vL_lt (d :: r) h).1
    rw [show vL (d :: r) = r.foldl (fun n x => n * 256 + x) d by simp [vL]] at hlt hnn ⊢
    generalize r.foldl (fun n x => n * 256 + x) d = N at hge hlt hnn ⊢
    obtain ⟨x, rfl⟩ := Int.eq_ofNat_of_zero_le hnn
    have hj : r.length + 1 ≤ 8 := h8
    have h1 : (256 : Int) ^ r.length ≤ (x : Int) := by
      refine Int.le_trans ?_ hge
      have := Int.mul_le_mul_of_nonneg_right (show 1 ≤ d by omega) (show (0 : Int) ≤ 256 ^ r.length from Int.pow_nonneg (by decide))
      rwa [Int.one_mul] at this
    rw [List.length_cons] at hlt ⊢
    generalize r.length = j at h1 hlt hj ⊢
    have h1' : 2 ^ (8 * j) ≤ x := by
      rw [Nat.pow_mul]
      exact Int.ofNat_le.1 (by rw [Int.natCast_pow]; exact h1)
    have hlt' : x < 2 ^ (8 * j) * 256 := by
      rw [Nat.pow_mul]
      have : x < 256 ^ (j + 1) := Int.ofNat_lt.1 (by rw [Int.natCast_pow]; exact hlt)
      rwa [Nat.pow_succ] at this
    have h64 : x < 2 ^ 64 := Nat.lt_of_lt_of_le hlt' (by rw [show 256 = 2 ^ 8 from rfl, ← Nat.pow_add]; exact Nat.pow_le_pow_right (by decide) (by omega))
    have hs := Lib.bitLen_shift (8 * j) x h1' h64
    have hq : x / 2 ^ (8 * j) < 256 := Nat.div_lt_of_lt_mul hlt'
    have hq0 : x / 2 ^ (8 * j) ≠ 0 := by
      have := (Nat.le_div_iff_mul_le (Nat.pow_pos (n := 8 * j) (show 0 < 2 by decide)) (x := 1) (y := x)).2 (by omega)
      omega
    have ha := bl_pos _ hq0 (by omega)
    have hb := Lib.bitLen_le (x / 2 ^ (8 * j)) 8 (by decide) hq
    unfold nb
    rw [Int.toNat_natCast, hs]
    omega
theorem numB_vL (zs : List Int) (h : rng zs) (h8 : zs.length ≤ 8) (hd : zs ≠ [] → zs.getD 0 0 ≠ 0) : numB (vL zs) = (zs.length : Int) :: zs := by
  unfold numB
  rw [nb_vL zs h h8 hd, cp_full _ _ h8, dg_vL zs h]
theorem rng_part {bs : List Int} (h : rng bs) (i k : Nat) : rng ((bs.drop i).take k) := fun x hx => h x (List.mem_of_mem_drop (List.mem_of_mem_take hx))
/-- What is read between two places is written so. -/
def Fits (bs : List Int) (at' p : Nat) (news : List Int) : Prop := at' ≤ p ∧ p ≤ bs.length ∧ bs.take at' ++ news = bs.take p
theorem fits_of {bs : List Int} {at' p : Nat} {news : List Int} (k : Nat) (hp : p = at' + k) (hl : p ≤ bs.length) (hn : news = (bs.drop at').take k) : Fits bs at' p news := by
  subst hp hn
  exact ⟨by omega, hl, by rw [← List.take_add]⟩
theorem fits_trans {bs : List Int} {a b c : Nat} {x y : List Int} (h : Fits bs a b x) (h2 : Fits bs b c y) : Fits bs a c (x ++ y) := ⟨Nat.le_trans h.1 h2.1, h2.2.1, by rw [← List.append_assoc, h.2.2, h2.2.2]⟩
theorem num_fits {bs : List Int} {at' p : Nat} {n : Int} (hr : rng bs) (h : numO bs at' = .inr (n, p)) : 0 ≤ n ∧ n < 9223372036854775808 ∧ Fits bs at' p (numB n) := by
  unfold numO at h
  split at h
  · cases h
  split at h
  · cases h
  split at h
  · cases h
  split at h
  · cases h
  rename_i h1 h2 h3 h4
  simp only [Sum.inr.injEq, Prod.mk.injEq] at h
  obtain ⟨rfl, rfl⟩ := h
  have hd : rng [bs.getD at' 0] := by
    rw [← one_at bs at' (by omega)]
    exact rng_part hr at' 1
  have hd0 := hd (bs.getD at' 0) (List.mem_singleton.2 rfl)
  obtain ⟨k, hk⟩ := Int.eq_ofNat_of_zero_le hd0.1
  rw [hk, Int.toNat_natCast] at h3 h4 ⊢
  rw [hk] at h2
  have hz := rng_part hr (at' + 1) k
  have hl : ((bs.drop (at' + 1)).take k).length = k := by rw [List.length_take, List.length_drop]; omega
  have hnb : ¬ badN ((bs.drop (at' + 1)).take k) := h4
  have h5 : ((bs.drop (at' + 1)).take k) ≠ [] → ((bs.drop (at' + 1)).take k).getD 0 0 ≠ 0 := fun a b => hnb (.inl ⟨a, b⟩)
  have h6 : vL ((bs.drop (at' + 1)).take k) ≤ 9223372036854775807 := Int.not_lt.1 fun h => hnb (.inr h)
  have h7 := (vL_lt _ hz).1
  refine ⟨h7, by omega, fits_of (k + 1) (by omega) (by omega) ?_⟩
  rw [numB_vL _ hz (by rw [hl]; omega) h5, hl, show k + 1 = 1 + k by omega, List.take_add, one_at bs at' (by omega), hk, List.drop_drop]
  rfl
theorem word_fits {bs : List Int} {at' p : Nat} {n : Int} (hr : rng bs) (h : wordO bs at' = .inr (n, p)) : 0 ≤ n ∧ n < 18446744073709551616 ∧ Fits bs at' p (wordB n) := by
  unfold wordO at h
  split at h
  · cases h
  simp only [Sum.inr.injEq, Prod.mk.injEq] at h
  obtain ⟨rfl, rfl⟩ := h
  have hz := rng_part hr at' 8
  have hl : ((bs.drop at').take 8).length = 8 := by rw [List.length_take, List.length_drop]; omega
  have hv := vL_lt _ hz
  rw [hl] at hv
  refine ⟨hv.1, hv.2, fits_of 8 rfl (by omega) ?_⟩
  have := dg_vL _ hz
  rw [hl] at this
  rw [wordB_dg, this]
theorem pace_fits {bs : List Int} {at' p : Nat} {x : Nat} (hr : rng bs) (h : paceO bs at' = .inr (x, p)) : x < 18446744073709551616 ∧ canon x = x ∧ Fits bs at' p (wordB (x : Int)) := by
  unfold paceO at h
  split at h
  · cases h
  split at h
  · rename_i h1 h2
    simp only [Sum.inr.injEq, Prod.mk.injEq] at h
    obtain ⟨rfl, rfl⟩ := h
    have hw := word_fits hr (show wordO bs at' = .inr (vL ((bs.drop at').take 8), at' + 8) by unfold wordO; rw [if_neg h1])
    have e : ((vL ((bs.drop at').take 8)).toNat : Int) = vL ((bs.drop at').take 8) := Int.toNat_of_nonneg hw.1
    exact ⟨by omega, h2, by rw [e]; exact hw.2.2⟩
  · cases h
theorem bool_fits {bs : List Int} {at' p : Nat} {b : Bool} (hr : rng bs) (h : boolO bs at' = .inr (b, p)) : Fits bs at' p (boolB b) := by
  unfold boolO at h
  split at h
  · cases h
  split at h
  · cases h
  simp only [Sum.inr.injEq, Prod.mk.injEq] at h
  obtain ⟨rfl, rfl⟩ := h
  rename_i h1 h2
  have hd : rng [bs.getD at' 0] := by
    rw [← one_at bs at' (by omega)]
    exact rng_part hr at' 1
  have hd0 := hd (bs.getD at' 0) (List.mem_singleton.2 rfl)
  refine fits_of 1 rfl (by omega) ?_
  rw [one_at bs at' (by omega)]
  unfold boolB
  obtain h | h : bs.getD at' 0 = 0 ∨ bs.getD at' 0 = 1 := by omega
  · rw [h]; rfl
  · rw [h]; rfl
theorem row_fits {n : Nat} {bs : List Int} {at' p : Nat} {l : List Int} (h : rowO n bs at' = .inr (l, p)) : l.length = n ∧ Fits bs at' p l := by
  unfold rowO at h
  split at h
  · cases h
  simp only [Sum.inr.injEq, Prod.mk.injEq] at h
  obtain ⟨rfl, rfl⟩ := h
  exact ⟨by rw [List.length_take, List.length_drop]; omega, fits_of n rfl (by omega) rfl⟩
theorem sized_fits {bs : List Int} {at' p : Nat} {most : Int} {l : List Int} (hr : rng bs) (h : sizedO bs at' most = .inr (l, p)) : rng l ∧ l.length ≤ bs.length ∧ Fits bs at' p (numB (l.length : Int) ++ l) := by
  unfold sizedO at h
  split at h
  · cases h
  rename_i x hx
  obtain ⟨n, q⟩ := x
  split at h
  · cases h
  split at h
  · cases h
  rename_i h1 h2
  simp only [Sum.inr.injEq, Prod.mk.injEq] at h h1 h2
  obtain ⟨rfl, rfl⟩ := h
  obtain ⟨h0, h3, h4⟩ := num_fits hr hx
  have hl : ((bs.drop q).take n.toNat).length = n.toNat := by rw [List.length_take, List.length_drop]; omega
  refine ⟨rng_part hr q _, by rw [hl]; omega, fits_trans (b := q) ?_ (fits_of n.toNat rfl (by omega) rfl)⟩
  rw [hl, Int.toNat_of_nonneg h0]
  exact h4
theorem tb_st (zs : List Int) (h : rng zs) : tb (st zs) = zs := by
  unfold tb st strOfNums
  apply List.ext_getElem
  · simp
  · intro i h1 h2
    have := h zs[i] (List.getElem_mem h2)
    simp
    omega
end WirRT
end Go.Proofs.Ythcemghamdmjmaa

namespace Go.Proofs.Ythcemghamdmjmaa
namespace WirAA
open Go.RowKit PaceA FltC
open BlkM WirM WirS WirA WirB WirC WirD WirE WirF WirG WirH WirI WirJ WirK WirL WirN WirO WirP WirQ WirR WirT WirU WirV WirW WirX WirZ WirNA WirRT

/-- A box. -/
def box (T : TypeId) (X : Nat) (cs : List Value) : Thg where
  ok w := At w X T cs
  foot k := k = X
  stable h hf hX := At.fr h hf (hX X rfl)
  inside h k hk := by subst hk; exact h.lt
theorem bag_box {w0 w w' : World} {l : List Thg} {T : TypeId} {X : Nat} {cs : List Value} (h : Bag w0 w l) (hX : X = w.heap.size) (hA : At w' X T cs) (hb : Below w.heap.size w w') : Bag w0 w' (box T X cs :: l) :=
  h.new hb hA (fun k hk => by rw [show k = X from hk, hX]; exact Nat.le_refl _)
theorem bag_set {w0 w : World} {l : List Thg} {T : TypeId} {X : Nat} {cs : List Value} (h : Bag w0 w (box T X cs :: l)) (i : Nat) (v : Value) : Bag w0 (w.setCell ⟨X, i, none⟩ v) (box T X (cs.set i v) :: l) :=
  h.act ((Fr.refl _ w).setCell X i v (fun _ => rfl)) (At.setCell h.head i v) (fun _ hk => .inl hk)
theorem bag_sets {w0 w : World} {l : List Thg} {T : TypeId} {X : Nat} {cs : List Value} (h : Bag w0 w (box T X cs :: l)) (o : Nat) (vs : List Value) (hl : o + vs.length ≤ cs.length) : Bag w0 (w.setCells X o vs) (box T X (cs.take o ++ (vs ++ cs.drop (o + vs.length))) :: l) :=
  h.act (fr_setCells X vs o w w (Fr.refl _ w)) (heap_setCells_one X T vs o cs w h.head hl) (fun _ hk => .inl hk)
theorem num_code {bs : List Int} {at' : Nat} {c : Int} (h : numO bs at' = .inl c) : c ≠ 0 := by
  unfold numO at h
  split at h
  · cases h; decide
  split at h
  · cases h; decide
  split at h
  · cases h; decide
  split at h
  · cases h; decide
  · cases h
theorem word_code {bs : List Int} {at' : Nat} {c : Int} (h : wordO bs at' = .inl c) : c ≠ 0 := by
  unfold wordO at h
  split at h
  · cases h; decide
  · cases h
theorem row_code {n : Nat} {bs : List Int} {at' : Nat} {c : Int} (h : rowO n bs at' = .inl c) : c ≠ 0 := by
  unfold rowO at h
  split at h
  · cases h; decide
  · cases h
theorem pace_code {bs : List Int} {at' : Nat} {c : Int} (h : paceO bs at' = .inl c) : c ≠ 0 := by
  unfold paceO at h
  split at h
  · cases h; decide
  split at h
  · cases h
  · cases h; decide
theorem bool_code {bs : List Int} {at' : Nat} {c : Int} (h : boolO bs at' = .inl c) : c ≠ 0 := by
  unfold boolO at h
  split at h
  · cases h; decide
  split at h
  · cases h; decide
  · cases h
theorem sized_code {bs : List Int} {at' : Nat} {most : Int} {c : Int} (h : sizedO bs at' most = .inl c) : c ≠ 0 := by
  unfold sizedO at h
  split at h
  · rename_i x hx
    cases h
    exact num_code hx
  split at h
  · cases h; decide
  split at h
  · cases h; decide
  · cases h
/-- What a reading call leaves: a value that was there, or none and a fault. -/
def Rd {α : Type} (w0 : World) (l : List Thg) (R : Nat) (a : Option Addr) (c : Nat) (bs : List Int) (f : α → Value) (z : α) (o : Sum Int (α × Nat)) (e : Ending) (w' : World) : Prop :=
  ∃ x p fe fa, e = .returned (f x) ∧ Bag w0 w' (rdr R a c bs p fe fa :: l) ∧ ((fe = 0 ∧ fa = 0 ∧ o = .inr (x, p)) ∨ (fe ≠ 0 ∧ x = z ∧ o = .inl fe))
theorem rd_of {α : Type} {f : α → Value} {w0 w : World} {l : List Thg} {R : Nat} {a : Option Addr} {c : Nat} {bs : List Int} {at' : Nat} {g : FuncId} {args : Array Value} {z : α} {o : Sum Int (α × Nat)} (h : Bag w0 w (rdr R a c bs at' 0 0 :: l)) (hc : ∀ c, o = .inl c → c ≠ 0)
    (C : Calls Try.prog g args w (ReadPost w R a c bs at' (f z) (outOf f o))) : Calls Try.prog g args w (Rd w0 l R a c bs f z o) := by
  cases o with
  | inl code => exact C.mono fun _ _ ⟨h1, ⟨p, h2⟩, h3⟩ => ⟨z, p, code, at', h1, bag_read h h2 h3, .inr ⟨hc _ rfl, rfl, rfl⟩⟩
  | inr x => exact C.mono fun _ _ ⟨v, h1, h2, h3, h4⟩ => ⟨x.1, x.2, 0, 0, by rw [h1, h2], bag_read h h3 h4, .inl ⟨rfl, rfl, rfl⟩⟩
/-- Likewise of bytes: memory of their own. -/
def RdB (w0 : World) (l : List Thg) (R : Nat) (a : Option Addr) (c : Nat) (bs : List Int) (o : Sum Int (List Int × Nat)) (e : Ending) (w' : World) : Prop :=
  ∃ va vn vc x p fe fa, e = .returned (.slice va vn vc) ∧ Bag w0 w' (own (.slice va vn vc) x :: rdr R a c bs p fe fa :: l) ∧ ((fe = 0 ∧ fa = 0 ∧ o = .inr (x, p)) ∨ (fe ≠ 0 ∧ x = [] ∧ o = .inl fe))
theorem own_nil (w : World) : Own w 5 (.slice none 0 0) [] := ⟨by simp [b8], .inl ⟨rfl, rfl⟩⟩
theorem rdB_of {w0 w : World} {l : List Thg} {R : Nat} {a : Option Addr} {c : Nat} {bs : List Int} {at' : Nat} {g : FuncId} {args : Array Value} {o : Sum Int (List Int × Nat)} (h : Bag w0 w (rdr R a c bs at' 0 0 :: l)) (hc : ∀ c, o = .inl c → c ≠ 0)
    (C : Calls Try.prog g args w (ReadPost w R a c bs at' (.slice none 0 0) (outB w o))) : Calls Try.prog g args w (RdB w0 l R a c bs o) := by
  cases o with
  | inl code => exact C.mono fun _ w' ⟨h1, ⟨p, h2⟩, h3⟩ => ⟨none, 0, 0, [], p, code, at', h1, (bag_read h h2 h3).new (Below.refl _ w') (own_nil w') (fun k hk => by cases hk), .inr ⟨hc _ rfl, rfl, rfl⟩⟩
  | inr x =>
    refine C.mono fun _ w' ⟨v, h1, ⟨va, vn, vc, hv, h5, h6⟩, h3, h4⟩ => ⟨va, vn, vc, x.1, x.2, 0, 0, by rw [h1, hv], ?_, .inl ⟨rfl, rfl, rfl⟩⟩
    have hb := bag_read h h3 h4
    refine ⟨hb.low, fun y hy => ?_, List.pairwise_cons.2 ⟨fun y hy k hk hk' => ?_, hb.apart⟩⟩
    · rcases List.mem_cons.1 hy with rfl | hy
      · exact ⟨h5, fun k hk => Nat.le_trans h.low.size (h6 k hk)⟩
      · exact hb.all y hy
    · have hn := h6 k hk
      rcases List.mem_cons.1 hy with rfl | hy
      · rcases hk' with rfl | hk'
        · have := h.head.lt; omega
        · have := h.head.olt k hk'; omega
      · have := y.inside (h.all y (by simp [hy])).1 k hk'
        omega
theorem b_num {w0 w : World} {l : List Thg} {R : Nat} {a : Option Addr} {c : Nat} {bs : List Int} {at' : Nat} (h : Bag w0 w (rdr R a c bs at' 0 0 :: l)) :
    Calls Try.prog 37 #[.pointer (some ⟨R, 0, none⟩)] w (Rd w0 l R a c bs (.int .i64) ((0 : Int)) (numO bs at')) := rd_of h (fun _ h => num_code h) (num_read w R a c bs at' h.head)
theorem b_hash {w0 w : World} {l : List Thg} {R : Nat} {a : Option Addr} {c : Nat} {bs : List Int} {at' : Nat} (h : Bag w0 w (rdr R a c bs at' 0 0 :: l)) :
    Calls Try.prog 40 #[.pointer (some ⟨R, 0, none⟩)] w (Rd w0 l R a c bs (aggB) (zz 32) (rowO 32 bs at')) := rd_of h (fun _ h => row_code h) (hash_read w R a c bs at' h.head)
theorem b_key {w0 w : World} {l : List Thg} {R : Nat} {a : Option Addr} {c : Nat} {bs : List Int} {at' : Nat} (h : Bag w0 w (rdr R a c bs at' 0 0 :: l)) :
    Calls Try.prog 41 #[.pointer (some ⟨R, 0, none⟩)] w (Rd w0 l R a c bs (aggB) (zz 4) (rowO 4 bs at')) := rd_of h (fun _ h => row_code h) (key_read w R a c bs at' h.head)
theorem b_word {w0 w : World} {l : List Thg} {R : Nat} {a : Option Addr} {c : Nat} {bs : List Int} {at' : Nat} (h : Bag w0 w (rdr R a c bs at' 0 0 :: l)) :
    Calls Try.prog 42 #[.pointer (some ⟨R, 0, none⟩)] w (Rd w0 l R a c bs (.int .u64) ((0 : Int)) (wordO bs at')) := rd_of h (fun _ h => word_code h) (word_read w R a c bs at' h.head)
theorem b_pace {w0 w : World} {l : List Thg} {R : Nat} {a : Option Addr} {c : Nat} {bs : List Int} {at' : Nat} (h : Bag w0 w (rdr R a c bs at' 0 0 :: l)) :
    Calls Try.prog 43 #[.pointer (some ⟨R, 0, none⟩)] w (Rd w0 l R a c bs (.float .f64) ((0 : Nat)) (paceO bs at')) := rd_of h (fun _ h => pace_code h) (pace_read w R a c bs at' h.head)
theorem b_bool {w0 w : World} {l : List Thg} {R : Nat} {a : Option Addr} {c : Nat} {bs : List Int} {at' : Nat} (h : Bag w0 w (rdr R a c bs at' 0 0 :: l)) :
    Calls Try.prog 44 #[.pointer (some ⟨R, 0, none⟩)] w (Rd w0 l R a c bs (.bool) (false) (boolO bs at')) := rd_of h (fun _ h => bool_code h) (bool_read w R a c bs at' h.head)
theorem b_text {w0 w : World} {l : List Thg} {R : Nat} {a : Option Addr} {c : Nat} {bs : List Int} {at' : Nat} (most : Int) (h : Bag w0 w (rdr R a c bs at' 0 0 :: l)) :
    Calls Try.prog 38 #[.pointer (some ⟨R, 0, none⟩), .int .i64 most] w (Rd w0 l R a c bs (fun zs => .string (st zs)) [] (sizedO bs at' most)) := rd_of h (fun _ h => sized_code h) (text_read w R a c bs at' most h.head)
theorem b_bytes {w0 w : World} {l : List Thg} {R : Nat} {a : Option Addr} {c : Nat} {bs : List Int} {at' : Nat} (most : Int) (h : Bag w0 w (rdr R a c bs at' 0 0 :: l)) :
    Calls Try.prog 39 #[.pointer (some ⟨R, 0, none⟩), .int .i64 most] w (RdB w0 l R a c bs (sizedO bs at' most)) := rdB_of h (fun _ h => sized_code h) (bytes_read w R a c bs at' most h.head)
/-! ### Written -/
/-- The bytes of a thing. -/
def form (t : Td) (zs : List Int) : List Int :=
  if t.kd = 0 then numB t.n else if t.kd = 1 ∨ t.kd = 2 then numB (zs.length : Int) ++ zs else if t.kd = 3 then t.h else if t.kd = 4 then t.k else if t.kd = 5 then wordB t.u else if t.kd = 6 then wordB (canon t.u.toNat : Int) else boolB t.is
def Put (w0 : World) (l : List Thg) (W : Nat) (lim : Int) (zs' : List Int) (w' : World) : Prop := ∃ v', Bag w0 w' (wtr W lim v' zs' 0 :: l)
theorem puts_bag (w0 w : World) (l : List Thg) (W : Nat) (lim : Int) (v : Value) (ys : List Int) (t : Td) (va : Option Addr) (vn vc : Nat) (zs : List Int) (h : Bag w0 w (wtr W lim v ys 0 :: l)) (hk : 0 ≤ t.kd ∧ t.kd ≤ 7) (hn : t.kd = 0 → 0 ≤ t.n)
    (ht : Wf w t va vn vc zs) (hap : Apart W v (.slice va vn vc)) (hs : zs.length ≤ 1099511627776) (hl : ((ys.length + (form t zs).length : Nat) : Int) ≤ lim) :
    Calls Try.prog 23 #[.pointer (some ⟨W, 0, none⟩), .agg t.cells.toArray] w (Ans 0 (Put w0 l W lim (ys ++ form t zs))) := by
  have hb := PW_below w t
  have hB := h.more hb
  have hl' : ∀ news : List Int, news = form t zs → putE lim 0 ys news.length = 0 ∧ putZ lim 0 ys news = ys ++ news := fun news e => by
    subst e
    have : putE lim 0 ys (form t zs).length = 0 := by
      unfold putE
      rw [if_neg (by simp), if_neg (by omega)]
    exact ⟨this, by unfold putZ; rw [if_pos this]⟩
  have fin : ∀ {f : FuncId} {args : Array Value} (news : List Int), news = form t zs → Calls Try.prog f args (PW w t) (Wrote (PW w t) W lim v (putZ lim 0 ys news) (putE lim 0 ys news.length)) → Calls Try.prog f args (PW w t) (Ans 0 (Put w0 l W lim (ys ++ form t zs))) := fun news e C => by
    obtain ⟨h1, h2⟩ := hl' news e
    rw [h1, h2] at C
    subst e
    exact (bw_of hB C).mono fun _ _ hh => hh
  have hlen := ht.len
  have ht' := ht.more hb (Below.refl _ _)
  obtain ⟨x, hx⟩ := Int.eq_ofNat_of_zero_le ht.u0
  have hu1 := ht.u1
  have hn1 := ht.n1
  obtain k | k | k | k | k | k | k | k : t.kd = 0 ∨ t.kd = 1 ∨ t.kd = 2 ∨ t.kd = 3 ∨ t.kd = 4 ∨ t.kd = 5 ∨ t.kd = 6 ∨ t.kd = 7 := by omega
  · exact puts0 w _ t va vn vc ht.hv k _ _ (fin (numB t.n) (by simp [form, k]) (num_any _ W lim v ys 0 t.n (hn k) (by omega) hB.head))
  · exact puts1 w _ t va vn vc ht.hv zs ht.bin k _ _ (fin (numB (st zs).size ++ tb (st zs)) (by simp [form, k, st_size, tb_st zs ht.rz]) (text_any _ W lim v ys 0 (st zs) (by rw [st_size]; omega) hB.head))
  · exact puts2 w _ t va vn vc ht.hv k _ _ (fin (numB vn ++ zs) (by simp [form, k, hlen]) (bytes_any _ W lim v ys 0 va vn vc zs ht'.bin hap (by omega) hB.head))
  · exact puts3 w _ t k _ _ (fin t.h (by simp [form, k]) (hash_any _ W lim v ys 0 t.h t.lh hB.head))
  · exact puts4 w _ t k _ _ (fin t.k (by simp [form, k]) (key_any _ W lim v ys 0 t.k t.lk hB.head))
  · exact puts5 w _ t va vn vc ht.hv k _ _ (fin (wordB t.u) (by simp [form, k]) (WirF.word_any _ W lim v ys 0 t.u ht.u0 ht.u1 hB.head))
  · exact puts6 w _ t x hx k _ _ (fin (wordB (canon x : Int)) (by simp [form, k, hx]) (wpace_any _ W lim v ys 0 x (by omega) hB.head))
  · exact puts7 w _ t va vn vc ht.hv k _ _ (fin (boolB t.is) (by simp [form, k]) (bool_any _ W lim v ys 0 t.is hB.head))
end WirAA
end Go.Proofs.Ythcemghamdmjmaa

