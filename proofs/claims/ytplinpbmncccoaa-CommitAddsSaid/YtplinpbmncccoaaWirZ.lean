/-
  puts: a thing is written, by its kind.
-/
import Derived.Test.YtplinpbmncccoaaWirY
namespace Go.Proofs.Ytplinpbmncccoaa
namespace WirZ
open Go.RowKit PaceA
open BlkM WirM WirS WirA WirB WirC WirD WirE WirF WirG WirH WirI WirJ WirK WirL WirN WirO WirP WirQ WirR WirT WirU WirV WirW WirX

/-- A thing. -/
structure Td where
  kd : Int
  n : Int
  v : Value
  h : List Int
  k : List Int
  u : Int
  is : Bool
  lh : h.length = 32
  lk : k.length = 4
def Td.cells (t : Td) : List Value := .int .i64 t.kd :: .int .i64 t.n :: t.v :: (b8 t.h ++ (b8 t.k ++ [.int .u64 t.u, .bool t.is]))
theorem Td.len (t : Td) : t.cells.length = 41 := by simp [Td.cells, b8_len, t.lh, t.lk]
theorem Td.getH (t : Td) (i : Nat) (hi : i < 32) : t.cells[3 + i]? = some (.int .u8 (t.h.getD i 0)) := by
  have h1 : (b8 t.h).length = 32 := by rw [b8_len, t.lh]
  rw [show 3 + i = i + 3 by omega]
  show (b8 t.h ++ (b8 t.k ++ [.int .u64 t.u, .bool t.is]))[i]? = _
  rw [List.getElem?_append_left (by omega)]
  exact b8_get _ _ (by rw [t.lh]; exact hi)
theorem Td.getK (t : Td) (i : Nat) (hi : i < 4) : t.cells[35 + i]? = some (.int .u8 (t.k.getD i 0)) := by
  have h1 : (b8 t.h).length = 32 := by rw [b8_len, t.lh]
  have h2 : (b8 t.k).length = 4 := by rw [b8_len, t.lk]
  rw [show 35 + i = (32 + i) + 3 by omega]
  show (b8 t.h ++ (b8 t.k ++ [.int .u64 t.u, .bool t.is]))[32 + i]? = _
  rw [List.getElem?_append_right (by omega), h1, Nat.add_sub_cancel_left, List.getElem?_append_left (by omega)]
  exact b8_get _ _ (by rw [t.lk]; exact hi)
theorem Td.getU (t : Td) : t.cells[39]? = some (.int .u64 t.u) := by
  have h1 : (b8 t.h).length = 32 := by rw [b8_len, t.lh]
  have h2 : (b8 t.k).length = 4 := by rw [b8_len, t.lk]
  show (b8 t.h ++ (b8 t.k ++ [.int .u64 t.u, .bool t.is]))[36]? = _
  rw [List.getElem?_append_right (by omega), h1, List.getElem?_append_right (by omega), h2]
  rfl
theorem Td.getIs (t : Td) : t.cells[40]? = some (.bool t.is) := by
  have h1 : (b8 t.h).length = 32 := by rw [b8_len, t.lh]
  have h2 : (b8 t.k).length = 4 := by rw [b8_len, t.lk]
  show (b8 t.h ++ (b8 t.k ++ [.int .u64 t.u, .bool t.is]))[37]? = _
  rw [List.getElem?_append_right (by omega), h1, List.getElem?_append_right (by omega), h2]
  rfl
/-- The world behind a box of it. -/
def PW (w : World) (t : Td) : World := w.alloc (.cells t.cells.toArray 39)
theorem PW_below (w : World) (t : Td) : Below w.heap.size w (PW w t) := Below.alloc (Below.refl _ _) (Nat.le_refl _) _
theorem PW_at (w : World) (t : Td) : At (PW w t) w.heap.size 39 t.cells := At.new _ _ _
theorem rangeH {w : World} {b : Nat} {T : TypeId} {t : Td} (h : At w b T t.cells) : w.rangeAt b 3 (b8 t.h) := fun j v hj => by
  have hl : j < 32 := by
    have := (List.getElem?_eq_some_iff.1 hj).1
    rw [b8_len, t.lh] at this
    exact this
  rw [h.cell, t.getH j hl, ← b8_get t.h j (by rw [t.lh]; exact hl)]
  exact hj
theorem rangeK {w : World} {b : Nat} {T : TypeId} {t : Td} (h : At w b T t.cells) : w.rangeAt b 35 (b8 t.k) := fun j v hj => by
  have hl : j < 4 := by
    have := (List.getElem?_eq_some_iff.1 hj).1
    rw [b8_len, t.lk] at this
    exact this
  rw [h.cell, t.getK j hl, ← b8_get t.k j (by rw [t.lk]; exact hl)]
  exact hj
def Ans (E : Int) (R : World → Prop) (e : Ending) (w' : World) : Prop := e = .returned (.int .i64 E) ∧ R w'
theorem puts0 (w : World) (p : Option Addr) (t : Td) (va : Option Addr) (vn vc : Nat) (hv : t.v = .slice va vn vc) (hk : t.kd = 0) (E : Int) (R : World → Prop)
    (H0 : Calls Try.prog 45 #[.pointer p, .int .i64 t.n] (PW w t) (Ans E R)) :
    Calls Try.prog 23 #[.pointer p, .agg t.cells.toArray] w (Ans E R) := by
  obtain ⟨W0, e0⟩ : ∃ X, X = PW w t := ⟨_, rfl⟩
  rw [← e0] at H0
  have hA : At W0 w.heap.size 39 t.cells := by rw [e0]; exact PW_at _ _
  have c0 : W0.cell? ⟨w.heap.size, 0, none⟩ = some (.int .i64 0) := by rw [hA.cell, ← hk]; rfl
  have c1 : W0.cell? ⟨w.heap.size, 1, none⟩ = some (.int .i64 t.n) := by rw [hA.cell]; rfl
  have c2 : W0.cell? ⟨w.heap.size, 2, none⟩ = some (.slice va vn vc) := by rw [hA.cell, ← hv]; rfl
  have c5 : W0.cell? ⟨w.heap.size, 39, none⟩ = some (.int .u64 t.u) := by rw [hA.cell, t.getU]
  have c6 : W0.cell? ⟨w.heap.size, 40, none⟩ = some (.bool t.is) := by rw [hA.cell, t.getIs]
  have H := WirS.hide H0
  have E0 := WirS.hide e0
  clear hA hk hv H0 e0
  go_enter Try.func23, Try.ntmps23
  go_upto_region 1 with fail
  rw [show w.alloc (.cells t.cells.toArray 39) = W0 from E0.out.symm]
  go_wp2_with ((go_at_call 45; refine (H.out).mono ?_; rintro e w1 ⟨rfl, hs⟩; have HS := WirS.hide hs; clear hs))
  go_ret
  exact ⟨rfl, HS.out⟩
theorem puts2 (w : World) (p : Option Addr) (t : Td) (va : Option Addr) (vn vc : Nat) (hv : t.v = .slice va vn vc) (hk : t.kd = 2) (E : Int) (R : World → Prop)
    (H0 : Calls Try.prog 92 #[.pointer p, .slice va vn vc] (PW w t) (Ans E R)) :
    Calls Try.prog 23 #[.pointer p, .agg t.cells.toArray] w (Ans E R) := by
  obtain ⟨W0, e0⟩ : ∃ X, X = PW w t := ⟨_, rfl⟩
  rw [← e0] at H0
  have hA : At W0 w.heap.size 39 t.cells := by rw [e0]; exact PW_at _ _
  have c0 : W0.cell? ⟨w.heap.size, 0, none⟩ = some (.int .i64 2) := by rw [hA.cell, ← hk]; rfl
  have c1 : W0.cell? ⟨w.heap.size, 1, none⟩ = some (.int .i64 t.n) := by rw [hA.cell]; rfl
  have c2 : W0.cell? ⟨w.heap.size, 2, none⟩ = some (.slice va vn vc) := by rw [hA.cell, ← hv]; rfl
  have c5 : W0.cell? ⟨w.heap.size, 39, none⟩ = some (.int .u64 t.u) := by rw [hA.cell, t.getU]
  have c6 : W0.cell? ⟨w.heap.size, 40, none⟩ = some (.bool t.is) := by rw [hA.cell, t.getIs]
  have H := WirS.hide H0
  have E0 := WirS.hide e0
  clear hA hk hv H0 e0
  go_enter Try.func23, Try.ntmps23
  go_upto_region 1 with fail
  rw [show w.alloc (.cells t.cells.toArray 39) = W0 from E0.out.symm]
  go_wp2_with ((go_at_call 92; refine (H.out).mono ?_; rintro e w1 ⟨rfl, hs⟩; have HS := WirS.hide hs; clear hs))
  go_ret
  exact ⟨rfl, HS.out⟩
theorem puts5 (w : World) (p : Option Addr) (t : Td) (va : Option Addr) (vn vc : Nat) (hv : t.v = .slice va vn vc) (hk : t.kd = 5) (E : Int) (R : World → Prop)
    (H0 : Calls Try.prog 89 #[.pointer p, .int .u64 t.u] (PW w t) (Ans E R)) :
    Calls Try.prog 23 #[.pointer p, .agg t.cells.toArray] w (Ans E R) := by
  obtain ⟨W0, e0⟩ : ∃ X, X = PW w t := ⟨_, rfl⟩
  rw [← e0] at H0
  have hA : At W0 w.heap.size 39 t.cells := by rw [e0]; exact PW_at _ _
  have c0 : W0.cell? ⟨w.heap.size, 0, none⟩ = some (.int .i64 5) := by rw [hA.cell, ← hk]; rfl
  have c1 : W0.cell? ⟨w.heap.size, 1, none⟩ = some (.int .i64 t.n) := by rw [hA.cell]; rfl
  have c2 : W0.cell? ⟨w.heap.size, 2, none⟩ = some (.slice va vn vc) := by rw [hA.cell, ← hv]; rfl
  have c5 : W0.cell? ⟨w.heap.size, 39, none⟩ = some (.int .u64 t.u) := by rw [hA.cell, t.getU]
  have c6 : W0.cell? ⟨w.heap.size, 40, none⟩ = some (.bool t.is) := by rw [hA.cell, t.getIs]
  have H := WirS.hide H0
  have E0 := WirS.hide e0
  clear hA hk hv H0 e0
  go_enter Try.func23, Try.ntmps23
  go_upto_region 1 with fail
  rw [show w.alloc (.cells t.cells.toArray 39) = W0 from E0.out.symm]
  go_wp2_with ((go_at_call 89; refine (H.out).mono ?_; rintro e w1 ⟨rfl, hs⟩; have HS := WirS.hide hs; clear hs))
  go_ret
  exact ⟨rfl, HS.out⟩
theorem puts7 (w : World) (p : Option Addr) (t : Td) (va : Option Addr) (vn vc : Nat) (hv : t.v = .slice va vn vc) (hk : t.kd = 7) (E : Int) (R : World → Prop)
    (H0 : Calls Try.prog 90 #[.pointer p, .bool t.is] (PW w t) (Ans E R)) :
    Calls Try.prog 23 #[.pointer p, .agg t.cells.toArray] w (Ans E R) := by
  obtain ⟨W0, e0⟩ : ∃ X, X = PW w t := ⟨_, rfl⟩
  rw [← e0] at H0
  have hA : At W0 w.heap.size 39 t.cells := by rw [e0]; exact PW_at _ _
  have c0 : W0.cell? ⟨w.heap.size, 0, none⟩ = some (.int .i64 7) := by rw [hA.cell, ← hk]; rfl
  have c1 : W0.cell? ⟨w.heap.size, 1, none⟩ = some (.int .i64 t.n) := by rw [hA.cell]; rfl
  have c2 : W0.cell? ⟨w.heap.size, 2, none⟩ = some (.slice va vn vc) := by rw [hA.cell, ← hv]; rfl
  have c5 : W0.cell? ⟨w.heap.size, 39, none⟩ = some (.int .u64 t.u) := by rw [hA.cell, t.getU]
  have c6 : W0.cell? ⟨w.heap.size, 40, none⟩ = some (.bool t.is) := by rw [hA.cell, t.getIs]
  have H := WirS.hide H0
  have E0 := WirS.hide e0
  clear hA hk hv H0 e0
  go_enter Try.func23, Try.ntmps23
  go_upto_region 1 with fail
  rw [show w.alloc (.cells t.cells.toArray 39) = W0 from E0.out.symm]
  go_wp2_with ((go_at_call 90; refine (H.out).mono ?_; rintro e w1 ⟨rfl, hs⟩; have HS := WirS.hide hs; clear hs))
  go_ret
  exact ⟨rfl, HS.out⟩
theorem puts1 (w : World) (p : Option Addr) (t : Td) (va : Option Addr) (vn vc : Nat) (hv : t.v = .slice va vn vc) (zs : List Int) (hb : BIn w (.slice va vn vc) zs) (hk : t.kd = 1) (E : Int) (R : World → Prop)
    (H0 : Calls Try.prog 88 #[.pointer p, .string (st zs)] (PW w t) (Ans E R)) :
    Calls Try.prog 23 #[.pointer p, .agg t.cells.toArray] w (Ans E R) := by
  obtain ⟨W0, e0⟩ : ∃ X, X = PW w t := ⟨_, rfl⟩
  rw [← e0] at H0
  have hA : At W0 w.heap.size 39 t.cells := by rw [e0]; exact PW_at _ _
  have c0 : W0.cell? ⟨w.heap.size, 0, none⟩ = some (.int .i64 1) := by rw [hA.cell, ← hk]; rfl
  have c2 : W0.cell? ⟨w.heap.size, 2, none⟩ = some (.slice va vn vc) := by rw [hA.cell, ← hv]; rfl
  have hcv := conv_any W0 va vn vc zs (by rw [e0]; exact hb.below (PW_below _ _))
  have H := WirS.hide H0
  have E0 := WirS.hide e0
  clear hA hk hv H0 e0 hb
  go_enter Try.func23, Try.ntmps23
  go_upto_region 1 with fail
  rw [show w.alloc (.cells t.cells.toArray 39) = W0 from E0.out.symm]
  go_wp2_with ((go_at_call 88; refine (H.out).mono ?_; rintro e w1 ⟨rfl, hs⟩; have HS := WirS.hide hs; clear hs))
  go_ret
  exact ⟨rfl, HS.out⟩
theorem puts6 (w : World) (p : Option Addr) (t : Td) (x : Nat) (hu : t.u = (x : Int)) (hk : t.kd = 6) (E : Int) (R : World → Prop)
    (H0 : Calls Try.prog 95 #[.pointer p, .float .f64 x] (PW w t) (Ans E R)) :
    Calls Try.prog 23 #[.pointer p, .agg t.cells.toArray] w (Ans E R) := by
  obtain ⟨W0, e0⟩ : ∃ X, X = PW w t := ⟨_, rfl⟩
  rw [← e0] at H0
  have hA : At W0 w.heap.size 39 t.cells := by rw [e0]; exact PW_at _ _
  have c0 : W0.cell? ⟨w.heap.size, 0, none⟩ = some (.int .i64 6) := by rw [hA.cell, ← hk]; rfl
  have c5 : W0.cell? ⟨w.heap.size, 39, none⟩ = some (.int .u64 (x : Int)) := by rw [hA.cell, t.getU, hu]
  have hff := ffrom x
  have H := WirS.hide H0
  have E0 := WirS.hide e0
  clear hA hk hu H0 e0
  go_enter Try.func23, Try.ntmps23
  go_upto_region 1 with fail
  rw [show w.alloc (.cells t.cells.toArray 39) = W0 from E0.out.symm]
  go_wp2_with ((go_at_call 95; refine (H.out).mono ?_; rintro e w1 ⟨rfl, hs⟩; have HS := WirS.hide hs; clear hs))
  go_ret
  exact ⟨rfl, HS.out⟩
theorem puts3 (w : World) (p : Option Addr) (t : Td) (hk : t.kd = 3) (E : Int) (R : World → Prop)
    (H0 : Calls Try.prog 93 #[.pointer p, .agg (b8 t.h).toArray] (PW w t) (Ans E R)) :
    Calls Try.prog 23 #[.pointer p, .agg t.cells.toArray] w (Ans E R) := by
  obtain ⟨W0, e0⟩ : ∃ X, X = PW w t := ⟨_, rfl⟩
  rw [← e0] at H0
  have hA : At W0 w.heap.size 39 t.cells := by rw [e0]; exact PW_at _ _
  have c0 : W0.cell? ⟨w.heap.size, 0, none⟩ = some (.int .i64 3) := by rw [hA.cell, ← hk]; rfl
  have HRg := WirS.hide (rangeH hA)
  have H := WirS.hide H0
  have E0 := WirS.hide e0
  clear hA hk H0 e0
  go_enter Try.func23, Try.ntmps23
  go_upto_region 1 with fail
  rw [show w.alloc (.cells t.cells.toArray 39) = W0 from E0.out.symm]
  go_upto_region 9 with fail
  refine wp_region_lit ?_
  refine sV (.pointer p) (W0) (by kernel_rfl) (by kernel_rfl) ?_
  simp only [Act.put, List.setIfInBounds_toArray, List.set_cons_succ, List.set_cons_zero]
  refine sV (.pointer (some ⟨w.heap.size, 3, none⟩)) (W0) (by kernel_rfl) (by kernel_rfl) ?_
  simp only [Act.put, List.setIfInBounds_toArray, List.set_cons_succ, List.set_cons_zero]
  refine wpList_load_mid (by rfl) _ _ (by rfl) w.heap.size 3 (by kernel_rfl) (b8 t.h) _ HRg.out Try.underlying34 (by rfl) (by rw [b8_len, t.lh]; kernel_rfl) ?_
  simp only [Act.put, List.setIfInBounds_toArray, List.set_cons_succ, List.set_cons_zero]
  refine sC (by kernel_rfl) (by kernel_rfl) H.out ?_
  intro w6 hs
  simp only [Act.put, List.setIfInBounds_toArray, List.set_cons_succ, List.set_cons_zero]
  have HS := WirS.hide hs
  clear hs
  go_wp2_with fail
  go_ret
  exact ⟨rfl, HS.out⟩
theorem puts4 (w : World) (p : Option Addr) (t : Td) (hk : t.kd = 4) (E : Int) (R : World → Prop)
    (H0 : Calls Try.prog 94 #[.pointer p, .agg (b8 t.k).toArray] (PW w t) (Ans E R)) :
    Calls Try.prog 23 #[.pointer p, .agg t.cells.toArray] w (Ans E R) := by
  obtain ⟨W0, e0⟩ : ∃ X, X = PW w t := ⟨_, rfl⟩
  rw [← e0] at H0
  have hA : At W0 w.heap.size 39 t.cells := by rw [e0]; exact PW_at _ _
  have c0 : W0.cell? ⟨w.heap.size, 0, none⟩ = some (.int .i64 4) := by rw [hA.cell, ← hk]; rfl
  have HRg := WirS.hide (rangeK hA)
  have H := WirS.hide H0
  have E0 := WirS.hide e0
  clear hA hk H0 e0
  go_enter Try.func23, Try.ntmps23
  go_upto_region 1 with fail
  rw [show w.alloc (.cells t.cells.toArray 39) = W0 from E0.out.symm]
  go_upto_region 11 with fail
  refine wp_region_lit ?_
  refine sV (.pointer p) (W0) (by kernel_rfl) (by kernel_rfl) ?_
  simp only [Act.put, List.setIfInBounds_toArray, List.set_cons_succ, List.set_cons_zero]
  refine sV (.pointer (some ⟨w.heap.size, 35, none⟩)) (W0) (by kernel_rfl) (by kernel_rfl) ?_
  simp only [Act.put, List.setIfInBounds_toArray, List.set_cons_succ, List.set_cons_zero]
  refine wpList_load_mid (by rfl) _ _ (by rfl) w.heap.size 35 (by kernel_rfl) (b8 t.k) _ HRg.out Try.underlying36 (by rfl) (by rw [b8_len, t.lk]; kernel_rfl) ?_
  simp only [Act.put, List.setIfInBounds_toArray, List.set_cons_succ, List.set_cons_zero]
  refine sC (by kernel_rfl) (by kernel_rfl) H.out ?_
  intro w6 hs
  simp only [Act.put, List.setIfInBounds_toArray, List.set_cons_succ, List.set_cons_zero]
  have HS := WirS.hide hs
  clear hs
  go_wp2_with fail
  go_ret
  exact ⟨rfl, HS.out⟩
theorem putsE (w : World) (p : Option Addr) (t : Td) (hk : ¬ (0 ≤ t.kd ∧ t.kd ≤ 7)) :
    Calls Try.prog 23 #[.pointer p, .agg t.cells.toArray] w (Ans 0 fun w' => w' = PW w t) := by
  obtain ⟨W0, e0⟩ : ∃ X, X = PW w t := ⟨_, rfl⟩
  have hA : At W0 w.heap.size 39 t.cells := by rw [e0]; exact PW_at _ _
  have c0 : W0.cell? ⟨w.heap.size, 0, none⟩ = some (.int .i64 t.kd) := by rw [hA.cell]; rfl
  have E0 := WirS.hide e0
  have h0 : (t.kd == 0) = false := by simp; omega
  have h1 : (t.kd == 1) = false := by simp; omega
  have h2 : (t.kd == 2) = false := by simp; omega
  have h3 : (t.kd == 3) = false := by simp; omega
  have h4 : (t.kd == 4) = false := by simp; omega
  have h5 : (t.kd == 5) = false := by simp; omega
  have h6 : (t.kd == 6) = false := by simp; omega
  have h7 : (t.kd == 7) = false := by simp; omega
  clear hA hk e0
  go_enter Try.func23, Try.ntmps23
  go_upto_region 1 with fail
  rw [show w.alloc (.cells t.cells.toArray 39) = W0 from E0.out.symm]
  go_wp2_with fail
  go_ret
  exact ⟨rfl, E0.out⟩
end WirZ
end Go.Proofs.Ytplinpbmncccoaa
