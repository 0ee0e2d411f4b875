/-
  A table that is nil, or that nobody made: valid, signatures, Has, Len, Add, Encode.
-/
import Derived.Test.YthcemghamdmjmaaPkA
import Derived.Deep.RegionWith
import Derived.BigQuiet
import Derived.Maps.OwnSet
import Derived.MapViews
import Derived.DeepKeys4
import Derived.Maps.Keyed
namespace Go.Proofs.Ythcemghamdmjmaa
namespace SgA
open Go.RowKit
open BlkM WirM WirS

local notation "TT" => 137
/-- A table that is nil, or that nobody made. -/
def Bad (w : World) (p : Option Addr) : Prop := p = none ∨ ∃ X, p = some ⟨X, 0, none⟩ ∧ At w X TT [.pointer none, .int .i64 0, .map none]
theorem Bad.below {w w' : World} {p : Option Addr} (h : Bad w p) (hb : Below w.heap.size w w') : Bad w' p := by
  rcases h with h | ⟨X, h, hA⟩
  · exact .inl h
  · exact .inr ⟨X, h, hA.below hb hA.lt⟩
set_option maxRecDepth 10000 in
theorem valid_bad (w : World) (p : Option Addr) (h : Bad w p) :
    Calls Try.prog 177 #[.pointer p] w fun e w' => e = .returned (.bool false) ∧ w = w' := by
  rcases h with rfl | ⟨X, rfl, hA⟩
  · go_enter Try.func177, Try.ntmps177
    go_wp2_with fail
    go_ret
    exact ⟨rfl, rfl⟩
  · have c0 : w.cell? ⟨X, 0, none⟩ = some (.pointer none) := hA.cell 0
    have hq : ∀ W, (binOp .eql 124 (.pointer none) (.pointer (some ⟨X, 0, none⟩))).run Try.prog W = .ok (.bool false) W := fun W => by kernel_rfl
    clear hA
    go_enter Try.func177, Try.ntmps177
    go_wp2_with fail
    go_ret
    exact ⟨rfl, rfl⟩
set_option maxRecDepth 10000 in
theorem sigs_bad (w : World) (p : Option Addr) (h : Bad w p) :
    Calls Try.prog 185 #[.pointer p] w fun e w' => e = .returned (.map none) ∧ w = w' := by
  have HV := WirS.hide (valid_bad w p h)
  clear h
  go_enter Try.func185, Try.ntmps185
  go_wp2_with (go_at_call 177; refine (HV.out).mono ?_; rintro e _ ⟨rfl, rfl⟩)
  go_ret
  exact ⟨rfl, rfl⟩
set_option maxRecDepth 10000 in
theorem len_bad (w : World) (p : Option Addr) (h : Bad w p) :
    Calls Try.prog 93 #[.pointer p] w fun e w' => e = .returned (.int .i64 0) ∧ w = w' := by
  have HV := WirS.hide (sigs_bad w p h)
  clear h
  go_enter Try.func93, Try.ntmps93
  go_wp2_with (go_at_call 185; refine (HV.out).mono ?_; rintro e _ ⟨rfl, rfl⟩)
  go_ret
  exact ⟨rfl, rfl⟩
set_option maxRecDepth 10000 in
theorem encode_bad (w : World) (p : Option Addr) (h : Bad w p) :
    Calls Try.prog 90 #[.pointer p] w fun e w' => e = .returned (.tuple #[.slice none 0 0, .int .i64 1]) ∧ w = w' := by
  have HV := WirS.hide (valid_bad w p h)
  clear h
  go_enter Try.func90, Try.ntmps90
  go_wp2_with (go_at_call 177; refine (HV.out).mono ?_; rintro e _ ⟨rfl, rfl⟩)
  go_ret2
  exact ⟨rfl, rfl⟩
/-- A signature: key, hash, word. -/
structure Sg where
  k : List Int
  h : List Int
  s : Int
deriving DecidableEq
structure Sg.ok (x : Sg) : Prop where
  k4 : x.k.length = 4
  h32 : x.h.length = 32
  kr : ∀ y ∈ x.k, 0 ≤ y ∧ y < 256
  hr : ∀ y ∈ x.h, 0 ≤ y ∧ y < 256
  sr : 0 ≤ x.s ∧ x.s < 18446744073709551616
def Sg.cells (x : Sg) : List Value := b8 x.k ++ (b8 x.h ++ [.int .u64 x.s])
def Sg.val (x : Sg) : Value := .agg x.cells.toArray
theorem Sg.len {x : Sg} (h : x.ok) : x.cells.length = 37 := by
  simp [Sg.cells, b8_len, h.k4, h.h32]
local notation "TG" => 213
theorem wideG : (match Try.prog.underlying TG with | some (.array _ _) | some (.struct _) => true | _ => false) = true := by kernel_rfl
theorem keyG : Try.prog.keyTypeAt (Try.prog.types.size + 1) TG = true := by kernel_rfl
theorem laidOut : laidOutB Try.prog = true := by kernel_rfl
theorem rowG : TG < Try.prog.types.size := of_decide_eq_true (by kernel_rfl)
theorem kt3 : Try.prog.keyTypeAt 3 TG = true := by kernel_rfl
set_option maxRecDepth 100000 in
theorem lawG : Go.WideMaps.KeyLaw Try.prog TG := deep_law_laid laidOut (m := 3) (by omega) rowG kt3 wideG
theorem keyedG : Go.Maps.Keyed Try.prog TG := Go.Maps.Keyed.of_law lawG
theorem lits8 (d : Nat) (l : List Int) (hr : ∀ y ∈ l, 0 ≤ y ∧ y < 256) : ∀ n, n ≤ l.length → (List.range n).mapM (fun i => Try.prog.keyLits (d + 1) 5 (((b8 l).drop (i * 1)).take 1)) = some ((l.take n).map fun y => [Lit.int .u8 y])
  | 0, _ => by simp
  | n + 1, h => by
    have hx : l[n]? = some (l[n]'(by omega)) := List.getElem?_eq_getElem _
    have hy := hr _ (List.getElem_mem (show n < l.length by omega))
    have e : ((b8 l).drop (n * 1)).take 1 = [.int .u8 (l[n]'(by omega))] := by
      rw [Nat.mul_one, List.drop_eq_getElem_cons (by rw [b8_len]; omega)]
      simp [b8]
    rw [List.range_succ, List.mapM_append, lits8 d l hr n (by omega)]
    have hw : (Lit.int .u8 (l[n]'(by omega))).wf = true := by
      simp [Lit.wf, IntKind.min, IntKind.max, IntKind.signed, IntKind.bits]
      omega
    have e2 : ((l.take (n + 1)).map fun y => [Lit.int .u8 y]) = ((l.take n).map fun y => [Lit.int .u8 y]) ++ [[Lit.int .u8 (l[n]'(by omega))]] := by
      rw [List.map_take, List.map_take, List.take_add_one, List.getElem?_map, hx]
      rfl
    rw [e2]
    have e3 : Try.prog.keyLits (d + 1) 5 [.int .u8 (l[n]'(by omega))] = some [Lit.int .u8 (l[n]'(by omega))] := by
      unfold Program.keyLits
      simp only [Try.underlying5]
      simp [hw]
    simp only [List.mapM_cons, List.mapM_nil, e, e3]
    rfl
end SgA
end Go.Proofs.Ythcemghamdmjmaa
