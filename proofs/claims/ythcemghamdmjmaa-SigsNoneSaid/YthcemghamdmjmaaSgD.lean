/-
  A table that New made: signatures, Len, Has, Add.
-/
import Derived.Test.YthcemghamdmjmaaSgC
import Derived.Test.YthcemghamdmjmaaPkD
namespace Go.Proofs.Ythcemghamdmjmaa
namespace SgD
open Go.RowKit
open BlkM WirM WirS SgA SgB SgC
open WirX (Thg Bag)

local notation "TS" => 132
local notation "TG" => 213
local notation "TT" => 137
local notation "TM" => 135
def DD (xs : List Sg) : DataW Unit := Go.Maps.setOf (.agg []) (xs.map kl)
theorem b8_eq {l m : List Int} (h : b8 l = b8 m) : l = m := by
  have h2 := congrArg (List.map fun v => match v with | Value.int _ n => n | _ => 0) h
  simpa [b8, Function.comp_def] using h2
theorem val_inj {x y : Sg} (hx : x.ok) (hy : y.ok) (h : x.val = y.val) : x = y := by
  have h1 : x.cells = y.cells := by
    have := congrArg (fun v => match v with | Value.agg c => c.toList | _ => []) h
    simpa [Sg.val] using this
  unfold Sg.cells at h1
  obtain ⟨e1, h2⟩ := List.append_inj h1 (by rw [b8_len, b8_len, hx.k4, hy.k4])
  obtain ⟨e2, h3⟩ := List.append_inj h2 (by rw [b8_len, b8_len, hx.h32, hy.h32])
  have e3 : x.s = y.s := by simpa using h3
  obtain ⟨a, b, c⟩ := x
  obtain ⟨a', b', c'⟩ := y
  cases b8_eq e1
  cases b8_eq e2
  cases e3
  rfl
theorem kl_inj {x y : Sg} (hx : x.ok) (hy : y.ok) (h : kl x = kl y) : x = y := val_inj hx hy (keyedG.inj (key_of hx) (by rw [key_of hy, h]))
theorem kl_key (x : Sg) : WideAt.IsKeyLit (kl x) := trivial
theorem has_DD {xs : List Sg} (hxs : ∀ x ∈ xs, x.ok) {y : Sg} (hy : y.ok) : Go.Maps.has (DD xs) (kl y) = decide (y ∈ xs) := by
  unfold DD
  rw [Go.Maps.has_setOf _ _ _ (fun x hx => by obtain ⟨z, _, rfl⟩ := List.mem_map.1 hx; exact kl_key z), List.any_map]
  by_cases h : y ∈ xs
  · rw [decide_eq_true h, List.any_eq_true]
    exact ⟨y, h, WideAt.sameKey_self (kl_key y)⟩
  · rw [decide_eq_false h, List.any_eq_false]
    intro x hx
    show ¬ (kl x).sameKey (kl y) = true
    rw [Go.Maps.sameKey_ne (fun e => h (by rw [← kl_inj (hxs x hx) hy e]; exact hx))]
    decide
theorem size_fold : ∀ (xs : List Sg) (m : DataW Unit), Go.Maps.Tidy m → (∀ x ∈ xs, x.ok) → (∀ x ∈ xs, Go.Maps.has m (kl x) = false) → xs.Nodup → Go.Maps.size (xs.foldl (fun m x => m.put (kl x) (.agg [])) m) = Go.Maps.size m + xs.length
  | [], _, _, _, _, _ => rfl
  | x :: l, m, ht, hok, hno, hnd => by
    obtain ⟨n1, n2⟩ := List.nodup_cons.1 hnd
    rw [List.foldl_cons, size_fold l _ (ht.put (kl_key x) _) (fun y hy => hok y (by simp [hy])) (fun y hy => by
      rw [Go.Maps.has_put_other (fun e => n1 (by rw [← kl_inj (hok y (by simp [hy])) (hok x (by simp)) e]; exact hy))]
      exact hno y (by simp [hy])) n2, Go.Maps.size_put ht, hno x (by simp)]
    simp
    omega
theorem size_DD {xs : List Sg} (hxs : ∀ x ∈ xs, x.ok) (hn : xs.Nodup) : Go.Maps.size (DD xs) = xs.length := by
  unfold DD Go.Maps.setOf
  rw [List.foldl_map, size_fold xs _ Go.Maps.tidy_empty hxs (fun _ _ => rfl) hn]
  simp [Go.Maps.size]
theorem DD_snoc (xs : List Sg) (x : Sg) : DD (xs ++ [x]) = (DD xs).put (kl x) (.agg []) := by
  unfold DD
  rw [List.map_append]
  exact Go.Maps.setOf_snoc _ _ _
/-- A table's cells. -/
def tcl (X b : Nat) (most : Int) : List Value := [.pointer (some ⟨X, 0, none⟩), .int .i64 most, .map (some b)]
/-- A table that New made, for most ones, with xs. -/
structure Tab (w : World) (X b : Nat) (most : Int) (xs : List Sg) : Prop where
  at' : At w X TT (tcl X b most)
  map : w.ownsMap Try.prog TG (unitElem (H := Unit)) b xs.length (DD xs)
  nd : xs.Nodup
  ok : ∀ x ∈ xs, x.ok
theorem map_of {w w' : World} {b n : Nat} {D : DataW Unit} (h : w.ownsMap Try.prog TG (unitElem (H := Unit)) b n D) (e : w'.heap[b]? = w.heap[b]?) : w'.ownsMap Try.prog TG (unitElem (H := Unit)) b n D := by
  obtain ⟨es, clock, hb, r⟩ := h
  exact ⟨es, clock, e.trans hb, r⟩
theorem Tab.fr {Xs : Nat → Prop} {w w' : World} {X b : Nat} {most : Int} {xs : List Sg} (h : Tab w X b most xs) (hf : Fr Xs w w') (hX : ¬ Xs X) (hb : ¬ Xs b) : Tab w' X b most xs :=
  ⟨At.fr h.at' hf hX, map_of h.map (hf.block b h.map.lt hb), h.nd, h.ok⟩
theorem Tab.below {w w' : World} {X b : Nat} {most : Int} {xs : List Sg} (h : Tab w X b most xs) (hb : Below w.heap.size w w') : Tab w' X b most xs := h.fr (Xs := fun _ => False) (Fr.of_below hb) (fun h => h) (fun h => h)
theorem Tab.apart {w : World} {X b : Nat} {most : Int} {xs : List Sg} (h : Tab w X b most xs) : X ≠ b := by
  rintro rfl
  obtain ⟨es, clock, hb, _⟩ := h.map
  have := h.at'
  unfold At at this
  rw [this] at hb
  cases hb
set_option maxRecDepth 10000 in
theorem valid_ok (w : World) (X b : Nat) (most : Int) (h : At w X TT (tcl X b most)) :
    Calls Try.prog 177 #[.pointer (some ⟨X, 0, none⟩)] w fun e w' => e = .returned (.bool true) ∧ w = w' := by
  have c0 : w.cell? ⟨X, 0, none⟩ = some (.pointer (some ⟨X, 0, none⟩)) := h.cell 0
  have hq := ptr_eq Try.underlying124 (by kernel_rfl) X
  clear h
  go_enter Try.func177, Try.ntmps177
  go_wp2_with fail
  go_ret
  exact ⟨rfl, rfl⟩
set_option maxRecDepth 10000 in
theorem sigs_ok (w : World) (X b : Nat) (most : Int) (h : At w X TT (tcl X b most)) :
    Calls Try.prog 185 #[.pointer (some ⟨X, 0, none⟩)] w fun e w' => e = .returned (.map (some b)) ∧ w = w' := by
  have HV := WirS.hide (valid_ok w X b most h)
  have c2 : w.cell? ⟨X, 2, none⟩ = some (.map (some b)) := h.cell 2
  clear h
  go_enter Try.func185, Try.ntmps185
  go_wp2_with (go_at_call 177; refine (HV.out).mono ?_; rintro e _ ⟨rfl, rfl⟩)
  go_ret
  exact ⟨rfl, rfl⟩
set_option maxRecDepth 10000 in
theorem len_ok (w : World) (X b : Nat) (most : Int) (xs : List Sg) (h : Tab w X b most xs) :
    Calls Try.prog 93 #[.pointer (some ⟨X, 0, none⟩)] w fun e w' => e = .returned (.int .i64 (xs.length : Int)) ∧ w = w' := by
  have HV := WirS.hide (sigs_ok w X b most h.at')
  have HM := WirS.hide h.map
  have HS := WirS.hide (size_DD h.ok h.nd)
  clear h
  go_enter Try.func93, Try.ntmps93
  go_upto_region 1 with fail
  refine wp_region_lit ?_
  refine sV (.pointer (some ⟨X, 0, none⟩)) (w) (by kernel_rfl) (by kernel_rfl) ?_
  simp only [Act.put, List.setIfInBounds_toArray, List.set_cons_succ, List.set_cons_zero]
  refine sC (R := fun w' => w = w') (by kernel_rfl) (by kernel_rfl) HV.out ?_
  rintro _ rfl
  simp only [Act.put, List.setIfInBounds_toArray, List.set_cons_succ, List.set_cons_zero]
  refine wpList_len_own _ rfl _ TM rfl TG 212 Try.underlying135 (unitElem (H := Unit)) b xs.length (DD xs) rfl HM.out ?_
  rw [HS.out]
  go_wp2_with fail
  go_ret
  exact ⟨rfl, rfl⟩
theorem look_run {w : World} {b n : Nat} {xs : List Sg} (h : w.ownsMap Try.prog TG (unitElem (H := Unit)) b n (DD xs)) (hxs : ∀ x ∈ xs, x.ok) {x : Sg} (hx : x.ok) :
    (Instr.lookup TM (.map (some b)) x.val true).run Try.prog w = .ok (.tuple #[.agg #[], .bool (decide (x ∈ xs))]) w := by
  obtain ⟨v, ps, hrun, hv⟩ := h.look_ok keyedG Try.underlying135 (z := .agg #[]) (by kernel_rfl) unitElem_mk (key_of hx)
  obtain ⟨rfl, _⟩ := unitElem_inv hv
  rw [has_DD hxs hx] at hrun
  exact hrun
theorem has_ok (w : World) (X b : Nat) (most : Int) (xs : List Sg) (x : Sg) (hx : x.ok) (h : Tab w X b most xs) :
    Calls Try.prog 91 #[.pointer (some ⟨X, 0, none⟩), x.val] w fun e w' => e = .returned (.bool (decide (x ∈ xs))) ∧ Below w.heap.size w w' :=
  has_gen w _ x (.map (some b)) _ hx (fun U hU => sigs_ok U X b most (h.below hU).at') (fun _ hU => look_run (h.below hU).map h.ok hx)
end SgD
end Go.Proofs.Ythcemghamdmjmaa
