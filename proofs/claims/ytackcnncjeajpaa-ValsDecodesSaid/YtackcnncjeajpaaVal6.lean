/-
  ValSA, ValSB, ValSC, ValSD, ValSE, ValSF, ValDD, in one text.
-/
import Derived.Test.YtackcnncjeajpaaWirT
import Derived.Test.YtackcnncjeajpaaVal1
import Derived.Test.YtackcnncjeajpaaVal3
import Derived.Test.YtackcnncjeajpaaVal7
import Derived.Test.YtackcnncjeajpaaVal8
import Derived.Test.YtackcnncjeajpaaWirJ
import Derived.Test.YtackcnncjeajpaaVal5
namespace Go.Proofs.Ytackcnncjeajpaa
namespace ValSA
open Go.RowKit
open BlkM WirM WirS
open WirH (sa bin_sub slR)

/-- The reader as it lies. -/
structure RR (w : World) (R : Nat) (a : Option Addr) (c : Nat) (bs : List Int) (p : Int) (fe fa : Int) : Prop where
  cell : At w R 132 [.slice a bs.length c, .int .i64 p, .int .i64 fe, .int .i64 fa]
  bin : BIn w (.slice a bs.length c) bs
  off : (Value.slice a bs.length c).ownBlock ≠ some R
  olt : ∀ k, (Value.slice a bs.length c).ownBlock = some k → k < w.heap.size
theorem RR.fr {X : Nat → Prop} {w w' : World} {R : Nat} {a : Option Addr} {c : Nat} {bs : List Int} {p fe fa : Int} (h : RR w R a c bs p fe fa) (hf : Fr X w w') (h1 : ¬ X R) (h2 : ∀ k, (Value.slice a bs.length c).ownBlock = some k → ¬ X k) : RR w' R a c bs p fe fa :=
  ⟨At.fr h.cell hf h1, h.bin.fr hf h2, h.off, fun k hk => Nat.lt_of_lt_of_le (h.olt k hk) hf.size⟩
theorem RR.below {w w' : World} {R : Nat} {a : Option Addr} {c : Nat} {bs : List Int} {p fe fa : Int} (h : RR w R a c bs p fe fa) (hb : Below w.heap.size w w') : RR w' R a c bs p fe fa := h.fr (X := fun _ => False) (Fr.of_below hb) (fun h => h) (fun _ _ h => h)
theorem RR.set {w w' : World} {R : Nat} {a : Option Addr} {c : Nat} {bs : List Int} {p fe fa q ge ga : Int} (h : RR w R a c bs p fe fa) (hf : Fr (fun k => k = R) w w') (hA : At w' R 132 [.slice a bs.length c, .int .i64 q, .int .i64 ge, .int .i64 ga]) : RR w' R a c bs q ge ga :=
  ⟨hA, h.bin.fr hf (fun k hk e => h.off (by rw [hk, e])), h.off, fun k hk => Nat.lt_of_lt_of_le (h.olt k hk) hf.size⟩
theorem fails_ok (w : World) (R : Nat) (a : Option Addr) (c : Nat) (bs : List Int) (p e at' : Int) (h : RR w R a c bs p 0 0) :
    Calls Try.prog 170 #[.pointer (some ⟨R, 0, none⟩), .int .i64 e, .int .i64 at'] w fun en w' => en = .returned (.tuple #[]) ∧ RR w' R a c bs p e at' ∧ Fr (fun k => k = R) w w' := by
  have c2 : w.cell? ⟨R, 2, none⟩ = some (.int .i64 0) := h.cell.cell 2
  have c3 : w.cell? ⟨R, 3, none⟩ = some (.int .i64 0) := h.cell.cell 3
  have f2 := h.cell.frozen 2
  have f3 := h.cell.frozen 3
  have H := WirS.hide h
  clear h
  go_enter Try.func170, Try.ntmps170
  go_wp2_with fail
  first | go_end0 | refine bodyPost_ret (results_none rfl _ _ _) rfl ?_
  refine ⟨rfl, H.out.set (((Fr.refl (fun k => k = R) w).setCell R 2 _ (fun _ => rfl)).setCell R 3 _ (fun _ => rfl)) ?_, ((Fr.refl (fun k => k = R) w).setCell R 2 _ (fun _ => rfl)).setCell R 3 _ (fun _ => rfl)⟩
  exact (H.out.cell.setCell 2 _).setCell 3 _
theorem fails_not (w : World) (R : Nat) (a : Option Addr) (c : Nat) (bs : List Int) (p fe fa e at' : Int) (h : RR w R a c bs p fe fa) (hne : fe ≠ 0) :
    Calls Try.prog 170 #[.pointer (some ⟨R, 0, none⟩), .int .i64 e, .int .i64 at'] w fun en w' => en = .returned (.tuple #[]) ∧ w = w' := by
  have c2 : w.cell? ⟨R, 2, none⟩ = some (.int .i64 fe) := h.cell.cell 2
  have e1 : (fe == 0) = false := by simpa using hne
  clear h hne
  go_enter Try.func170, Try.ntmps170
  go_wp2_with fail
  first | go_end0 | refine bodyPost_ret (results_none rfl _ _ _) rfl ?_
  exact ⟨rfl, rfl⟩
theorem newr_any (w : World) (a : Option Addr) (n c : Nat) (bs : List Int) (h : BIn w (.slice a n c) bs) (hn : n ≤ 1099511627776) :
    Calls Try.prog 28 #[.slice a n c] w fun e w' => ∃ R a2 c2, e = .returned (.pointer (some ⟨R, 0, none⟩)) ∧ w.heap.size ≤ R ∧ RR w' R a2 c2 bs 0 0 0 ∧ (∀ k, (Value.slice a2 bs.length c2).ownBlock = some k → w.heap.size ≤ k) ∧ Below w.heap.size w w' := by
  have hnl : n = bs.length := by obtain ⟨_, _, e, _⟩ := h; cases e; rfl
  obtain ⟨i0, hi, hz0, hz1, hz2⟩ := info_parts (show (Try.prog.info? 5).map (fun i => (i.zero, i.size, i.bytes)) = some (some (.int .u8 0), 1, 1) by kernel_rfl)
  have hb : Below w.heap.size w (w.alloc (.cells #[] 5)) := Below.alloc (Below.refl _ _) (Nat.le_refl _) _
  have ownNew : WirM.Own (w.alloc (.cells #[] 5)) 5 (.slice (some ⟨w.heap.size, 0, none⟩) 0 0) [] := World.ownsRow_made w #[] 0 (Nat.zero_le _) (Nat.zero_le _) (by simp)
  obtain ⟨v1, u1, r1, o1, f1, n1⟩ := app_any (P := Try.prog) (w.alloc (.cells #[] 5)) 32 32 32 5 i0 _ Try.underlying32 hi hz0 hz1 hz2 rfl (.slice (some ⟨w.heap.size, 0, none⟩) 0 0) (.slice a n c) [] bs ownNew ((h.below hb).src Try.underlying32) (by simp; omega)
  rw [List.nil_append] at o1
  have HB := WirS.hide (hb.trans (f1.below (B := w.heap.size) (by simp) (fun k hk hx => by simp [Value.ownBlock] at hx; omega)))
  have HN := WirS.hide (show ∀ k, v1.ownBlock = some k → w.heap.size ≤ k from fun k hk => by
    rcases n1 k hk with hx | hx
    · simp [Value.ownBlock] at hx
      omega
    · simp at hx
      omega)
  obtain ⟨va, vc, rfl⟩ : ∃ va vc, v1 = .slice va bs.length vc := by obtain ⟨va, vc, e, _⟩ := o1.bin; exact ⟨va, vc, e⟩
  obtain ⟨m, hm⟩ : ∃ m, bs.length = m := ⟨_, rfl⟩
  have HO := WirS.hide o1
  have HM := WirS.hide hm
  rw [hm] at r1
  clear hb f1 n1 o1 h hi hz0 hz1 hz2 hnl ownNew hm
  go_enter Try.func28, Try.ntmps28
  go_upto_region 1 with fail
  refine wp_region_lit ?_
  refine sV (.slice (some ⟨w.heap.size, 0, none⟩) 0 0) (w.alloc (.cells #[] 5)) (by kernel_rfl) (by kernel_rfl) ?_
  simp only [Act.put, List.setIfInBounds_toArray, List.set_cons_succ, List.set_cons_zero]
  refine sV (.slice a n c) (w.alloc (.cells #[] 5)) (by kernel_rfl) (by kernel_rfl) ?_
  simp only [Act.put, List.setIfInBounds_toArray, List.set_cons_succ, List.set_cons_zero]
  refine sA (by kernel_rfl) 32 32 _ _ (by rfl) (.slice (some ⟨w.heap.size, 0, none⟩) 0 0) (.slice a n c) (by kernel_rfl) (by kernel_rfl) (.slice va m vc) (u1) r1 ?_
  simp only [Act.put, List.setIfInBounds_toArray, List.set_cons_succ, List.set_cons_zero]
  go_wp2_with fail
  go_ret
  have hal : Below u1.heap.size u1 (u1.alloc (.cells #[.slice va m vc, .int .i64 0, .int .i64 0, .int .i64 0] 132)) := Below.alloc (Below.refl _ _) (Nat.le_refl _) _
  have hAt := At.new u1 132 [.slice va m vc, .int .i64 0, .int .i64 0, .int .i64 0]
  refine ⟨u1.heap.size, va, vc, rfl, HB.out.size, ⟨by rw [HM.out]; exact hAt, HO.out.bin.below hal, ?_, fun k hk => ?_⟩, HN.out, HB.out.trans (hal.mono HB.out.size)⟩
  · intro e
    have := HO.out.lt _ e
    omega
  · have := HO.out.lt k hk
    simp
    omega
end ValSA
end Go.Proofs.Ytackcnncjeajpaa

namespace Go.Proofs.Ytackcnncjeajpaa
namespace ValSB
open Go.RowKit
open BlkM WirM WirS ValSA
open WirH (sa bin_sub slR)

theorem take_fault (w : World) (R : Nat) (a : Option Addr) (c : Nat) (bs : List Int) (p fe fa n at' : Int) (h : RR w R a c bs p fe fa) (hne : fe ≠ 0) :
    Calls Try.prog 169 #[.pointer (some ⟨R, 0, none⟩), .int .i64 n, .int .i64 at'] w fun en w' => en = .returned (.slice none 0 0) ∧ w = w' := by
  have c2 : w.cell? ⟨R, 2, none⟩ = some (.int .i64 fe) := h.cell.cell 2
  have e1 : (fe == 0) = false := by simpa using hne
  have e2 : (fe != 0) = true := by simpa using hne
  clear h hne
  go_enter Try.func169, Try.ntmps169
  go_wp2_with fail
  go_ret
  exact ⟨rfl, rfl⟩
theorem take_short (w : World) (R : Nat) (a : Option Addr) (c : Nat) (bs : List Int) (p n : Nat) (at' : Int) (h : RR w R a c bs (p : Int) 0 0) (hp : p ≤ bs.length) (hn : bs.length < p + n) (hs : bs.length ≤ 1099511627776) (hn9 : n ≤ 1000000) :
    Calls Try.prog 169 #[.pointer (some ⟨R, 0, none⟩), .int .i64 (n : Int), .int .i64 at'] w fun en w' => en = .returned (.slice none 0 0) ∧ RR w' R a c bs (p : Int) 6 at' ∧ Fr (fun k => k = R) w w' := by
  have c0 : w.cell? ⟨R, 0, none⟩ = some (.slice a bs.length c) := h.cell.cell 0
  have c1 : w.cell? ⟨R, 1, none⟩ = some (.int .i64 (p : Int)) := h.cell.cell 1
  have c2 : w.cell? ⟨R, 2, none⟩ = some (.int .i64 0) := h.cell.cell 2
  have HD := WirS.hide (fun N => h.below (below_drewN (Below.refl w.heap.size w) N))
  generalize hm : bs.length = m at *
  have g1 : (m : Int) - (p : Int) < (n : Int) := by omega
  have hd : decide ((m : Int) - (p : Int) < (n : Int)) = true := by simpa using g1
  have hi0 : p ≤ 1099511627776 := by omega
  have HM := WirS.hide hm
  clear h hm g1
  go_enter Try.func169, Try.ntmps169
  go_wp2_with fail
  go_quiet (fail)
  go_wp2_with (go_at_call 170; refine (fails_ok _ R a c bs (p : Int) 6 at' (HD.out _)).mono ?_; rintro e u ⟨rfl, hr, hf⟩; have HR := WirS.hide hr; have HF := WirS.hide hf; clear hr hf)
  go_ret
  exact ⟨rfl, HR.out, (Fr.of_below (below_drewN (Below.refl w.heap.size w) _)).trans HF.out⟩
set_option maxHeartbeats 4000000 in
theorem take_ok2 (w : World) (R : Nat) (a : Option Addr) (c : Nat) (bs : List Int) (p n : Nat) (at' : Int) (h : RR w R a c bs (p : Int) 0 0) (hn : p + n ≤ bs.length) (hs : bs.length ≤ 1099511627776) :
    Calls Try.prog 169 #[.pointer (some ⟨R, 0, none⟩), .int .i64 (n : Int), .int .i64 at'] w fun en w' => ∃ va vc, en = .returned (.slice va n vc) ∧ BIn w' (.slice va n vc) ((bs.drop p).take n) ∧ RR w' R a c bs ((p + n : Nat) : Int) 0 0 ∧ Fr (fun k => k = R) w w' ∧ ∀ k, (Value.slice va n vc).ownBlock = some k → w.heap.size ≤ k := by
  have c0 : w.cell? ⟨R, 0, none⟩ = some (.slice a bs.length c) := h.cell.cell 0
  have c1 : w.cell? ⟨R, 1, none⟩ = some (.int .i64 (p : Int)) := h.cell.cell 1
  have c2 : w.cell? ⟨R, 2, none⟩ = some (.int .i64 0) := h.cell.cell 2
  have H := WirS.hide h
  have hbin := h.bin
  have HLT := WirS.hide h.cell.lt
  have hcap : bs.length ≤ c := by obtain ⟨_, _, e, hc, _⟩ := hbin; cases e; exact hc
  have hsl : ∀ Y, (Instr.sliceAt 32 (.slice a bs.length c) (some (.int .i64 (p : Int))) (some (.int .i64 ((p : Int) + (n : Int)))) none).run Try.prog Y = .ok (.slice (sa a c p) n (c - p)) Y := fun Y => by
    have := slR a bs.length c p (p + n) n rfl hn hcap Y
    rwa [Int.natCast_add] at this
  have HSUB := WirS.hide (bin_sub hbin p n hn)
  obtain ⟨xs, hxs⟩ : ∃ xs, (bs.drop p).take n = xs := ⟨_, rfl⟩
  have hxl : xs.length = n := by rw [← hxs, List.length_take, List.length_drop]; omega
  rw [hxs] at HSUB ⊢
  generalize hsa : sa a c p = sx at *
  obtain ⟨m, hm⟩ : ∃ m, bs.length = m := ⟨_, rfl⟩
  have hn2 : p + n ≤ m := by omega
  rw [hm] at c0 hsl hs
  have hd : decide ((m : Int) - (p : Int) < (n : Int)) = false := by simp; omega
  have hwr : IntKind.i64.wrap ((p : Int) + (n : Int)) = (p : Int) + (n : Int) := IntWalk.i64_in _ (by omega)
  have hp0 : p ≤ 1099511627776 := by omega
  have hn0 : n ≤ 1099511627776 := by omega
  obtain ⟨i0, hi, hz0, hz1, hz2⟩ := info_parts (show (Try.prog.info? 5).map (fun i => (i.zero, i.size, i.bytes)) = some (some (.int .u8 0), 1, 1) by kernel_rfl)
  have HAP := WirS.hide (fun (U : World) (hb : Below w.heap.size w U) => (show ∃ v1 u1, (Builtin.append_ #[32, 32] 32 #[.slice (some ⟨U.heap.size, 0, none⟩) 0 0, .slice sx n (c - p)]).run Try.prog (U.alloc (.cells #[] 5)) = .ok v1 u1 ∧ (∃ va vc, v1 = .slice va n vc) ∧ BIn u1 v1 xs ∧ (∀ k, v1.ownBlock = some k → w.heap.size ≤ k) ∧ Below w.heap.size w u1 from by
    have hal : Below w.heap.size w (U.alloc (.cells #[] 5)) := hb.alloc hb.size _
    obtain ⟨v1, u1, r1, o1, f1, n1⟩ := app_any (P := Try.prog) (U.alloc (.cells #[] 5)) 32 32 32 5 i0 _ Try.underlying32 hi hz0 hz1 hz2 rfl (.slice (some ⟨U.heap.size, 0, none⟩) 0 0) (.slice sx n (c - p)) [] xs (World.ownsRow_made U #[] 0 (Nat.zero_le _) (Nat.zero_le _) (by simp)) ((HSUB.out.below hal).src Try.underlying32) (by simp; omega)
    rw [List.nil_append] at o1
    have hbu : Below w.heap.size w u1 := hal.trans (f1.below (B := w.heap.size) (by have := hb.size; simp; omega) (fun k hk hx => by have := hb.size; simp [Value.ownBlock] at hx; omega))
    refine ⟨v1, u1, r1, ?_, o1.bin, fun k hk => ?_, hbu⟩
    · obtain ⟨va, vc, e, _⟩ := o1.bin
      rw [hxl] at e
      exact ⟨va, vc, e⟩
    · have := hb.size
      rcases n1 k hk with hx | hx
      · simp [Value.ownBlock] at hx
        omega
      · simp at hx
        omega))
  have HM := WirS.hide hm
  have hmn : ((p : Int) + (n : Int)).toNat = p + n := by omega
  clear h hbin hcap hi hz0 hz1 hz2 hxs hxl hsa hm hn
  go_enter Try.func169, Try.ntmps169
  go_wp2_with fail
  go_quiet (fail)
  go_upto_region 6 with fail
  have hD : Below w.heap.size w (w.drewN nq) := below_drewN (Below.refl _ _) _
  have H1 := WirS.hide (H.out.below hD)
  obtain ⟨W1, e1⟩ : ∃ Y, Y = w.drewN nq := ⟨_, rfl⟩
  rw [← e1] at hD H1
  rw [← e1]
  have c0 : W1.cell? ⟨R, 0, none⟩ = some (.slice a m c) := by rw [← HM.out]; exact H1.out.cell.cell 0
  have c1 : W1.cell? ⟨R, 1, none⟩ = some (.int .i64 (p : Int)) := H1.out.cell.cell 1
  have HD1 := WirS.hide hD
  clear e1 hD
  go_region_held3 (fun w' => w'.cell? ⟨R, 0, none⟩ = some (.slice a m c) ∧ w'.cell? ⟨R, 1, none⟩ = some (.int .i64 (p : Int))) (go_keep)
    (first | (obtain ⟨v1, u1, hrun, ⟨va, vc, rfl⟩, hxb, hxn, hxB⟩ := HAP.out W1.drew (HD1.out.trans ((below_drewN (Below.refl _ _) 1).mono HD1.out.size)); have HXB := WirS.hide hxb; have HXN := WirS.hide hxn; have HXU := WirS.hide hxB; have hh := H.out.below hxB; have d0 : u1.cell? ⟨R, 0, none⟩ = some (.slice a m c) := (by rw [← HM.out]; exact hh.cell.cell 0); have d1 : u1.cell? ⟨R, 1, none⟩ = some (.int .i64 (p : Int)) := hh.cell.cell 1; have f1 := hh.cell.frozen 1; have HHU := WirS.hide hh; clear hxb hxn hxB hh; refine ValF.step_app rfl _ _ _ _ rfl _ _ rfl rfl (.slice va n vc) u1 hrun ?_))
  go_wp2_with fail
  go_ret
  have hst : Fr (fun k => k = R) u1 (u1.setCell ⟨R, 1, none⟩ (.int .i64 ((p : Int) + (n : Int)))) := (Fr.refl (fun k => k = R) u1).setCell R 1 _ (fun _ => rfl)
  refine ⟨va, vc, rfl, HXB.out.fr hst (fun k hk e => ?_), HHU.out.set hst ?_, (Fr.of_below HXU.out).trans' hst (fun _ _ h => h), HXN.out⟩
  · have := HXN.out k hk
    have := HLT.out
    omega
  · rw [Int.natCast_add]
    exact HHU.out.cell.setCell 1 _
theorem take_ok (w : World) (R : Nat) (a : Option Addr) (c : Nat) (bs : List Int) (p n : Nat) (at' : Int) (h : RR w R a c bs (p : Int) 0 0) (hn : p + n ≤ bs.length) (hs : bs.length ≤ 1099511627776) :
    Calls Try.prog 169 #[.pointer (some ⟨R, 0, none⟩), .int .i64 (n : Int), .int .i64 at'] w fun en w' => ∃ va vc, en = .returned (.slice va n vc) ∧ BIn w' (.slice va n vc) ((bs.drop p).take n) ∧ RR w' R a c bs ((p + n : Nat) : Int) 0 0 ∧ Fr (fun k => k = R) w w' :=
  (take_ok2 w R a c bs p n at' h hn hs).mono fun _ _ ⟨va, vc, h1, h2, h3, h4, _⟩ => ⟨va, vc, h1, h2, h3, h4⟩
end ValSB
end Go.Proofs.Ytackcnncjeajpaa

namespace Go.Proofs.Ytackcnncjeajpaa
namespace ValSC
open Go.RowKit
open BlkM WirM WirS ValSA ValSB ValK
open WirH (sa bin_sub slR badN sub_rng)
open WirG (vL vL_snoc vL_lt vL_bound or256 take_snoc)
open WirJ (numO)
open WirRT (rng)

theorem cell0 {w : World} {a : Option Addr} {n c : Nat} {zs : List Int} (h : BIn w (.slice a n c) zs) (hn : 0 < n) : ∃ B o, a = some ⟨B, o, none⟩ ∧ w.cell? ⟨B, o, none⟩ = some (.int .u8 (zs.getD 0 0)) := by
  obtain ⟨a', c', e, _, hz⟩ := h
  cases e
  obtain ⟨B, o, rfl, _, hc⟩ := hz (List.length_pos_iff.1 hn)
  exact ⟨B, o, rfl, hc 0 hn⟩
theorem cells_of {w : World} {a : Option Addr} {n c : Nat} {zs : List Int} (h : BIn w (.slice a n c) zs) (hn : 0 < n) : ∃ B o, a = some ⟨B, o, none⟩ ∧ ∀ i, i < n → w.cell? ⟨B, o + i, none⟩ = some (.int .u8 (zs.getD i 0)) := by
  obtain ⟨a', c', e, _, hz⟩ := h
  cases e
  obtain ⟨B, o, rfl, _, hc⟩ := hz (List.length_pos_iff.1 hn)
  exact ⟨B, o, rfl, hc⟩
theorem one_at {bs : List Int} {p : Nat} (h : p + 1 ≤ bs.length) : (bs.drop p).take 1 = [bs.getD p 0] := by
  rw [List.drop_eq_getElem_cons (show p < bs.length by omega), List.take_succ_cons, List.take_zero, List.getD_eq_getElem?_getD, List.getElem?_eq_getElem (show p < bs.length by omega)]
  rfl
set_option maxRecDepth 10000 in
set_option maxHeartbeats 4000000 in
theorem num_fault (w : World) (R : Nat) (a : Option Addr) (c : Nat) (bs : List Int) (p fe fa : Int) (h : RR w R a c bs p fe fa) (hne : fe ≠ 0) :
    Calls Try.prog 98 #[.pointer (some ⟨R, 0, none⟩)] w fun e w' => e = .returned (.int .i64 0) ∧ w = w' := by
  have c1 : w.cell? ⟨R, 1, none⟩ = some (.int .i64 p) := h.cell.cell 1
  have c2 : w.cell? ⟨R, 2, none⟩ = some (.int .i64 fe) := h.cell.cell 2
  have e1 : (fe == 0) = false := by simpa using hne
  have e2 : (fe != 0) = true := by simpa using hne
  have HT := WirS.hide (take_fault w R a c bs p fe fa 1 p h hne)
  clear h hne
  go_enter Try.func98, Try.ntmps98
  go_wp2_with (go_at_call 169; refine (HT.out).mono ?_; rintro e _ ⟨rfl, rfl⟩)
  go_ret
  exact ⟨rfl, rfl⟩
set_option maxRecDepth 10000 in
set_option maxHeartbeats 4000000 in
theorem num_s1 (w : World) (R : Nat) (a : Option Addr) (c : Nat) (bs : List Int) (p : Nat) (h : RR w R a c bs (p : Int) 0 0) (hp : p ≤ bs.length) (hs : bs.length ≤ 1099511627776) (h1 : bs.length < p + 1) :
    Calls Try.prog 98 #[.pointer (some ⟨R, 0, none⟩)] w fun e w' => e = .returned (.int .i64 0) ∧ (∃ q : Int, RR w' R a c bs q 6 (p : Int)) ∧ Fr (fun k => k = R) w w' := by
  have c1 : w.cell? ⟨R, 1, none⟩ = some (.int .i64 (p : Int)) := h.cell.cell 1
  have HT := WirS.hide (take_short w R a c bs p 1 (p : Int) h hp h1 hs (by omega))
  clear h hp h1 hs
  go_enter Try.func98, Try.ntmps98
  go_wp2_with (go_at_call 169; refine (HT.out).mono ?_; rintro e u ⟨rfl, hr, hf⟩; have d2 : u.cell? ⟨R, 2, none⟩ = some (.int .i64 6) := hr.cell.cell 2; have HR := WirS.hide hr; have HF := WirS.hide hf; clear hr hf)
  go_ret
  exact ⟨rfl, ⟨_, HR.out⟩, HF.out⟩
set_option maxRecDepth 10000 in
set_option maxHeartbeats 4000000 in
theorem num_big (w : World) (R : Nat) (a : Option Addr) (c : Nat) (bs : List Int) (p : Nat) (h : RR w R a c bs (p : Int) 0 0) (hs : bs.length ≤ 1099511627776) (h1 : p + 1 ≤ bs.length) (h8 : 8 < bs.getD p 0) :
    Calls Try.prog 98 #[.pointer (some ⟨R, 0, none⟩)] w fun e w' => e = .returned (.int .i64 0) ∧ (∃ q : Int, RR w' R a c bs q 5 (p : Int)) ∧ Fr (fun k => k = R) w w' := by
  have c1 : w.cell? ⟨R, 1, none⟩ = some (.int .i64 (p : Int)) := h.cell.cell 1
  have HT := WirS.hide (take_ok w R a c bs p 1 (p : Int) h h1 hs)
  rw [one_at h1] at HT
  generalize bs.getD p 0 = x at *
  have hd : decide (8 < x) = true := by simpa using h8
  clear h h1 hs h8
  go_enter Try.func98, Try.ntmps98
  go_upto_region 4 with (go_at_call 169; refine (HT.out).mono ?_; rintro e u ⟨va, vc, rfl, hb, hr, hf⟩; obtain ⟨B, o, rfl, k0⟩ := cell0 hb (by decide); rw [List.getD_cons_zero] at k0; have d2 : u.cell? ⟨R, 2, none⟩ = some (.int .i64 0) := hr.cell.cell 2; have HR := WirS.hide hr; have HF := WirS.hide hf; clear hr hf hb)
  clear c1 d2
  go_wp2_with (go_at_call 170; refine (fails_ok _ R a c bs _ 5 (p : Int) HR.out).mono ?_; rintro e u2 ⟨rfl, hr, hf⟩; have d2 : u2.cell? ⟨R, 2, none⟩ = some (.int .i64 5) := hr.cell.cell 2; have HR2 := WirS.hide hr; have HF2 := WirS.hide hf; clear hr hf)
  go_ret
  exact ⟨rfl, ⟨_, HR2.out⟩, HF.out.trans HF2.out⟩
set_option maxRecDepth 10000 in
set_option maxHeartbeats 4000000 in
theorem num_s2 (w : World) (R : Nat) (a : Option Addr) (c : Nat) (bs : List Int) (p n : Nat) (h : RR w R a c bs (p : Int) 0 0) (hs : bs.length ≤ 1099511627776) (h1 : p + 1 ≤ bs.length) (hx : bs.getD p 0 = (n : Int)) (h8 : n ≤ 8) (h2 : bs.length < p + 1 + n) :
    Calls Try.prog 98 #[.pointer (some ⟨R, 0, none⟩)] w fun e w' => e = .returned (.int .i64 0) ∧ (∃ q : Int, RR w' R a c bs q 6 (p : Int)) ∧ Fr (fun k => k = R) w w' := by
  have c1 : w.cell? ⟨R, 1, none⟩ = some (.int .i64 (p : Int)) := h.cell.cell 1
  have HT := WirS.hide (take_ok w R a c bs p 1 (p : Int) h h1 hs)
  rw [one_at h1] at HT
  rw [hx] at HT
  have g8 : ¬ (8 : Int) < (n : Int) := by omega
  have hd : decide ((8 : Int) < (n : Int)) = false := by simpa using g8
  have HT2 := WirS.hide (fun (U : World) (hR : RR U R a c bs ((p + 1 : Nat) : Int) 0 0) => take_short U R a c bs (p + 1) n (p : Int) hR h1 h2 hs (by omega))
  clear h h1 hs hx h2
  go_enter Try.func98, Try.ntmps98
  go_upto_region 7 with (go_at_call 169; refine (HT.out).mono ?_; rintro e u ⟨va, vc, rfl, hb, hr, hf⟩; obtain ⟨B, o, rfl, k0⟩ := cell0 hb (by decide); rw [List.getD_cons_zero] at k0; have d2 : u.cell? ⟨R, 2, none⟩ = some (.int .i64 0) := hr.cell.cell 2; have HR := WirS.hide hr; have HF := WirS.hide hf; clear hr hf hb)
  clear c1 d2
  go_wp2_with (go_at_call 169; refine (HT2.out _ HR.out).mono ?_; rintro e u2 ⟨rfl, hr, hf⟩; have d2 : u2.cell? ⟨R, 2, none⟩ = some (.int .i64 6) := hr.cell.cell 2; have HR2 := WirS.hide hr; have HF2 := WirS.hide hf; clear hr hf)
  refine wp_loop_rounds 1 ?_
  rw [rounds_succ]
  go_wp2_with fail
  go_ret
  exact ⟨rfl, ⟨_, HR2.out⟩, HF.out.trans HF2.out⟩
set_option maxRecDepth 10000 in
set_option maxHeartbeats 4000000 in
theorem num_bad (w : World) (R : Nat) (a : Option Addr) (c : Nat) (bs : List Int) (p n : Nat) (h : RR w R a c bs (p : Int) 0 0) (hs : bs.length ≤ 1099511627776) (h1 : p + 1 ≤ bs.length) (hx : bs.getD p 0 = (n : Int)) (h8 : n ≤ 8) (h2 : p + 1 + n ≤ bs.length) (hr : rng bs) (hn0 : 0 < n) (hb : badN ((bs.drop (p + 1)).take n)) :
    Calls Try.prog 98 #[.pointer (some ⟨R, 0, none⟩)] w fun e w' => e = .returned (.int .i64 0) ∧ (∃ q : Int, RR w' R a c bs q 5 (p : Int)) ∧ Fr (fun k => k = R) w w' := by
  have c1 : w.cell? ⟨R, 1, none⟩ = some (.int .i64 (p : Int)) := h.cell.cell 1
  have HT := WirS.hide (take_ok w R a c bs p 1 (p : Int) h h1 hs)
  rw [one_at h1] at HT
  rw [hx] at HT
  have g8 : ¬ (8 : Int) < (n : Int) := by omega
  have hd : decide ((8 : Int) < (n : Int)) = false := by simpa using g8
  have HT2 := WirS.hide (fun (U : World) (hR : RR U R a c bs ((p + 1 : Nat) : Int) 0 0) => take_ok U R a c bs (p + 1) n (p : Int) hR h2 hs)
  obtain ⟨zs, hzs⟩ : ∃ zs, (bs.drop (p + 1)).take n = zs := ⟨_, rfl⟩
  have hzl : zs.length = n := by rw [← hzs, List.length_take, List.length_drop]; omega
  have hzr : ∀ x ∈ zs, 0 ≤ x ∧ x < 256 := by rw [← hzs]; exact sub_rng hr (p + 1) n
  rw [hzs] at HT2 hb 
  have HZL := WirS.hide hzl
  have HBD := WirS.hide hb
  clear h h1 hs hx h2 hzs hr hb
  go_enter Try.func98, Try.ntmps98
  go_upto_region 7 with (go_at_call 169; refine (HT.out).mono ?_; rintro e u ⟨va, vc, rfl, hb, hr, hf⟩; obtain ⟨B, o, rfl, k0⟩ := cell0 hb (by decide); rw [List.getD_cons_zero] at k0; have d2 : u.cell? ⟨R, 2, none⟩ = some (.int .i64 0) := hr.cell.cell 2; have HR := WirS.hide hr; have HF := WirS.hide hf; clear hr hf hb)
  clear c1 d2
  go_upto_region 10 with (go_at_call 169; refine (HT2.out _ HR.out).mono ?_; rintro e u2 ⟨xa, xc, rfl, hb, hr, hf⟩; have d2 : u2.cell? ⟨R, 2, none⟩ = some (.int .i64 0) := hr.cell.cell 2; have HX := WirS.hide hb; have HR2 := WirS.hide hr; have HF2 := WirS.hide hf; clear hr hf hb)
  clear k0
  obtain ⟨B2, o2, rfl, hc⟩ := cells_of HX.out hn0
  have y0 := hc 0 hn0
  rw [Nat.add_zero] at y0
  have HC := WirS.hide hc
  clear hc
  go_loop [6, 7] (fun t i => ∃ k : Nat, k ≤ n ∧ i = .int .i64 k ∧ t = .int .u64 (vL (zs.take k))) (fun _ i => n - (intOf i).toNat)
  case atStart => exact ⟨0, Nat.zero_le _, rfl, rfl⟩
  case round =>
    obtain ⟨k, hk, rfl, rfl⟩ := hrel
    by_cases hlt : k < n
    · have hcell := HC.out k (by first | exact hlt | (rw [HZL.out]; exact hlt))
      have hb := vL_bound zs hzr k (by rw [HZL.out]; exact hk)
      have hx : 0 ≤ zs.getD k 0 ∧ zs.getD k 0 < 256 := by
        have hl : k < zs.length := by rw [HZL.out]; exact hlt
        have := hzr zs[k] (List.getElem_mem hl)
        simpa [List.getD, hl] using this
      have hs := WirS.hide (show vL (zs.take (k + 1)) = vL (zs.take k) * 256 + zs.getD k 0 by rw [take_snoc zs k (by rw [HZL.out]; exact hlt), vL_snoc])
      generalize zs.getD k 0 = x at hcell hx hs
      have hp : (256 : Int) ^ k ≤ 256 ^ 7 := by have := Nat.pow_le_pow_right (n := 256) (by decide) (show k ≤ 7 by omega); have h2 : ((256 ^ k : Nat) : Int) ≤ ((256 ^ 7 : Nat) : Int) := Int.ofNat_le.2 this; rw [Int.natCast_pow, Int.natCast_pow] at h2; exact h2
      generalize vL (zs.take k) = m at hb hs ⊢
      have h256 := Int.lt_of_lt_of_le hb.2 hp
      have hm := hb.1
      obtain ⟨hx0, hx1⟩ := hx
      have hor := or256 m x hm (by omega) hx0 hx1
      clear hb hp
      go_wp2_with fail
      exact ⟨⟨k + 1, by omega, by go_num, by rw [hs.out]⟩, by simp [intOf]; omega⟩
    · obtain rfl : k = n := by omega
      have hvk : vL (zs.take k) = vL zs := by rw [List.take_of_length_le (by rw [HZL.out]; exact Nat.le_refl _)]
      have hlast := vL_lt zs hzr
      rw [HZL.out] at hlast
      have hp : (256 : Int) ^ k ≤ 256 ^ 8 := by have := Nat.pow_le_pow_right (n := 256) (by decide) (show k ≤ 8 by omega); have h2 : ((256 ^ k : Nat) : Int) ≤ ((256 ^ 8 : Nat) : Int) := Int.ofNat_le.2 this; rw [Int.natCast_pow, Int.natCast_pow] at h2; exact h2
      have hm1 := Int.lt_of_lt_of_le hlast.2 hp
      have hm0 := hlast.1
      rw [hvk]
      have HV := WirS.hide (show zs.getD 0 0 = zs.getD 0 0 from rfl)
      have hbd := HBD.out
      have hk0 : (0 : Int) < (k : Int) := by omega
      clear hlast hp hvk HC hzr
      clear d2
      by_cases h0 : zs.getD 0 0 = 0
      · rw [h0] at y0
        clear hbd
        generalize vL zs = m at *
        go_wp2_with (go_at_call 170; refine (fails_ok _ R a c bs _ 5 (p : Int) HR2.out).mono ?_; rintro e u3 ⟨rfl, hr, hf⟩; have e2 : u3.cell? ⟨R, 2, none⟩ = some (.int .i64 5) := hr.cell.cell 2; have HR3 := WirS.hide hr; have HF3 := WirS.hide hf; clear hr hf)
        go_ret
        exact ⟨rfl, ⟨_, HR3.out⟩, (HF.out.trans HF2.out).trans HF3.out⟩
      · have hmx : 9223372036854775807 < vL zs := by
          rcases hbd with ⟨_, h⟩ | h
          · exact absurd h h0
          · exact h
        have e0 : (zs.getD 0 0 == 0) = false := by simpa using h0
        generalize zs.getD 0 0 = y at *
        clear hbd h0
        generalize vL zs = m at *
        have hsh : m / 9223372036854775808 = 1 := by omega
        go_wp2_with (go_at_call 170; refine (fails_ok _ R a c bs _ 5 (p : Int) HR2.out).mono ?_; rintro e u3 ⟨rfl, hr, hf⟩; have e2 : u3.cell? ⟨R, 2, none⟩ = some (.int .i64 5) := hr.cell.cell 2; have HR3 := WirS.hide hr; have HF3 := WirS.hide hf; clear hr hf)
        go_ret
        exact ⟨rfl, ⟨_, HR3.out⟩, (HF.out.trans HF2.out).trans HF3.out⟩
set_option maxRecDepth 10000 in
set_option maxHeartbeats 4000000 in
theorem num_ok (w : World) (R : Nat) (a : Option Addr) (c : Nat) (bs : List Int) (p n : Nat) (h : RR w R a c bs (p : Int) 0 0) (hs : bs.length ≤ 1099511627776) (h1 : p + 1 ≤ bs.length) (hx : bs.getD p 0 = (n : Int)) (h8 : n ≤ 8) (h2 : p + 1 + n ≤ bs.length) (hr : rng bs) (hn0 : 0 < n) (hb : ¬ badN ((bs.drop (p + 1)).take n)) :
    Calls Try.prog 98 #[.pointer (some ⟨R, 0, none⟩)] w fun e w' => e = .returned (.int .i64 (vL ((bs.drop (p + 1)).take n))) ∧ RR w' R a c bs ((p + 1 + n : Nat) : Int) 0 0 ∧ Fr (fun k => k = R) w w' := by
  have c1 : w.cell? ⟨R, 1, none⟩ = some (.int .i64 (p : Int)) := h.cell.cell 1
  have HT := WirS.hide (take_ok w R a c bs p 1 (p : Int) h h1 hs)
  rw [one_at h1] at HT
  rw [hx] at HT
  have g8 : ¬ (8 : Int) < (n : Int) := by omega
  have hd : decide ((8 : Int) < (n : Int)) = false := by simpa using g8
  have HT2 := WirS.hide (fun (U : World) (hR : RR U R a c bs ((p + 1 : Nat) : Int) 0 0) => take_ok U R a c bs (p + 1) n (p : Int) hR h2 hs)
  obtain ⟨zs, hzs⟩ : ∃ zs, (bs.drop (p + 1)).take n = zs := ⟨_, rfl⟩
  have hzl : zs.length = n := by rw [← hzs, List.length_take, List.length_drop]; omega
  have hzr : ∀ x ∈ zs, 0 ≤ x ∧ x < 256 := by rw [← hzs]; exact sub_rng hr (p + 1) n
  rw [hzs] at HT2 hb ⊢
  have HZL := WirS.hide hzl
  have HBD := WirS.hide hb
  clear h h1 hs hx h2 hzs hr hb
  go_enter Try.func98, Try.ntmps98
  go_upto_region 7 with (go_at_call 169; refine (HT.out).mono ?_; rintro e u ⟨va, vc, rfl, hb, hr, hf⟩; obtain ⟨B, o, rfl, k0⟩ := cell0 hb (by decide); rw [List.getD_cons_zero] at k0; have d2 : u.cell? ⟨R, 2, none⟩ = some (.int .i64 0) := hr.cell.cell 2; have HR := WirS.hide hr; have HF := WirS.hide hf; clear hr hf hb)
  clear c1 d2
  go_upto_region 10 with (go_at_call 169; refine (HT2.out _ HR.out).mono ?_; rintro e u2 ⟨xa, xc, rfl, hb, hr, hf⟩; have d2 : u2.cell? ⟨R, 2, none⟩ = some (.int .i64 0) := hr.cell.cell 2; have HX := WirS.hide hb; have HR2 := WirS.hide hr; have HF2 := WirS.hide hf; clear hr hf hb)
  clear k0
  obtain ⟨B2, o2, rfl, hc⟩ := cells_of HX.out hn0
  have y0 := hc 0 hn0
  rw [Nat.add_zero] at y0
  have HC := WirS.hide hc
  clear hc
  go_loop [6, 7] (fun t i => ∃ k : Nat, k ≤ n ∧ i = .int .i64 k ∧ t = .int .u64 (vL (zs.take k))) (fun _ i => n - (intOf i).toNat)
  case atStart => exact ⟨0, Nat.zero_le _, rfl, rfl⟩
  case round =>
    obtain ⟨k, hk, rfl, rfl⟩ := hrel
    by_cases hlt : k < n
    · have hcell := HC.out k (by first | exact hlt | (rw [HZL.out]; exact hlt))
      have hb := vL_bound zs hzr k (by rw [HZL.out]; exact hk)
      have hx : 0 ≤ zs.getD k 0 ∧ zs.getD k 0 < 256 := by
        have hl : k < zs.length := by rw [HZL.out]; exact hlt
        have := hzr zs[k] (List.getElem_mem hl)
        simpa [List.getD, hl] using this
      have hs := WirS.hide (show vL (zs.take (k + 1)) = vL (zs.take k) * 256 + zs.getD k 0 by rw [take_snoc zs k (by rw [HZL.out]; exact hlt), vL_snoc])
      generalize zs.getD k 0 = x at hcell hx hs
      have hp : (256 : Int) ^ k ≤ 256 ^ 7 := by have := Nat.pow_le_pow_right (n := 256) (by decide) (show k ≤ 7 by omega); have h2 : ((256 ^ k : Nat) : Int) ≤ ((256 ^ 7 : Nat) : Int) := Int.ofNat_le.2 this; rw [Int.natCast_pow, Int.natCast_pow] at h2; exact h2
      generalize vL (zs.take k) = m at hb hs ⊢
      have h256 := Int.lt_of_lt_of_le hb.2 hp
      have hm := hb.1
      obtain ⟨hx0, hx1⟩ := hx
      have hor := or256 m x hm (by omega) hx0 hx1
      clear hb hp
      go_wp2_with fail
      exact ⟨⟨k + 1, by omega, by go_num, by rw [hs.out]⟩, by simp [intOf]; omega⟩
    · obtain rfl : k = n := by omega
      have hvk : vL (zs.take k) = vL zs := by rw [List.take_of_length_le (by rw [HZL.out]; exact Nat.le_refl _)]
      have hlast := vL_lt zs hzr
      rw [HZL.out] at hlast
      have hp : (256 : Int) ^ k ≤ 256 ^ 8 := by have := Nat.pow_le_pow_right (n := 256) (by decide) (show k ≤ 8 by omega); have h2 : ((256 ^ k : Nat) : Int) ≤ ((256 ^ 8 : Nat) : Int) := Int.ofNat_le.2 this; rw [Int.natCast_pow, Int.natCast_pow] at h2; exact h2
      have hm1 := Int.lt_of_lt_of_le hlast.2 hp
      have hm0 := hlast.1
      rw [hvk]
      have HV := WirS.hide (show zs.getD 0 0 = zs.getD 0 0 from rfl)
      have hbd := HBD.out
      have hk0 : (0 : Int) < (k : Int) := by omega
      clear hlast hp hvk HC hzr
      have h0 : ¬ zs.getD 0 0 = 0 := fun h => hbd (.inl ⟨List.length_pos_iff.1 (by rw [HZL.out]; exact hn0), h⟩)
      have hmx : ¬ 9223372036854775807 < vL zs := fun h => hbd (.inr h)
      have e0 : (zs.getD 0 0 == 0) = false := by simpa using h0
      generalize zs.getD 0 0 = y at *
      clear hbd h0
      obtain ⟨m, hvm⟩ : ∃ m, vL zs = m := ⟨_, rfl⟩
      have HVM := WirS.hide hvm
      rw [hvm] at hm1 hm0 hmx ⊢
      clear hvm
      have hsh : m / 9223372036854775808 = 0 := by omega
      have hmx2 : m ≤ 9223372036854775807 := by omega
      go_wp2_with fail
      go_ret
      exact ⟨by rw [HVM.out]; rfl, HR2.out, HF.out.trans HF2.out⟩
set_option maxRecDepth 10000 in
set_option maxHeartbeats 4000000 in
theorem num_ok0 (w : World) (R : Nat) (a : Option Addr) (c : Nat) (bs : List Int) (p : Nat) (h : RR w R a c bs (p : Int) 0 0) (hs : bs.length ≤ 1099511627776) (h1 : p + 1 ≤ bs.length) (hx : bs.getD p 0 = 0) :
    Calls Try.prog 98 #[.pointer (some ⟨R, 0, none⟩)] w fun e w' => e = .returned (.int .i64 0) ∧ RR w' R a c bs ((p + 1 + 0 : Nat) : Int) 0 0 ∧ Fr (fun k => k = R) w w' := by
  have c1 : w.cell? ⟨R, 1, none⟩ = some (.int .i64 (p : Int)) := h.cell.cell 1
  have HT := WirS.hide (take_ok w R a c bs p 1 (p : Int) h h1 hs)
  rw [one_at h1] at HT
  rw [hx] at HT
  have HT2 := WirS.hide (fun (U : World) (hR : RR U R a c bs ((p + 1 : Nat) : Int) 0 0) => take_ok U R a c bs (p + 1) 0 (p : Int) hR h1 hs)
  clear h h1 hs hx
  go_enter Try.func98, Try.ntmps98
  go_upto_region 7 with (go_at_call 169; refine (HT.out).mono ?_; rintro e u ⟨va, vc, rfl, hb, hr, hf⟩; obtain ⟨B, o, rfl, k0⟩ := cell0 hb (by decide); rw [List.getD_cons_zero] at k0; have d2 : u.cell? ⟨R, 2, none⟩ = some (.int .i64 0) := hr.cell.cell 2; have HR := WirS.hide hr; have HF := WirS.hide hf; clear hr hf hb)
  clear c1 d2
  go_wp2_with (go_at_call 169; refine (HT2.out _ HR.out).mono ?_; rintro e u2 ⟨xa, xc, rfl, hb, hr, hf⟩; have d2 : u2.cell? ⟨R, 2, none⟩ = some (.int .i64 0) := hr.cell.cell 2; have HX := WirS.hide hb; have HR2 := WirS.hide hr; have HF2 := WirS.hide hf; clear hr hf hb)
  refine wp_loop_rounds 1 ?_
  rw [rounds_succ]
  go_wp2_with fail
  go_ret
  exact ⟨rfl, HR2.out, HF.out.trans HF2.out⟩
/-- A reader in such a state. -/
def RS (w : World) (R : Nat) (a : Option Addr) (c : Nat) (bs : List Int) (s : St) : Prop :=
  match s with
  | .inl f => f.1 ≠ 0 ∧ ∃ p : Int, RR w R a c bs p f.1 f.2
  | .inr p => p ≤ bs.length ∧ RR w R a c bs (p : Int) 0 0
theorem rs_num (w : World) (R : Nat) (a : Option Addr) (c : Nat) (bs : List Int) (s : St) (h : RS w R a c bs s) (hs : bs.length ≤ 1099511627776) (hr : rng bs) :
    Calls Try.prog 98 #[.pointer (some ⟨R, 0, none⟩)] w fun e w' => e = .returned (.int .i64 (rN bs s).1) ∧ RS w' R a c bs (rN bs s).2 ∧ Fr (fun k => k = R) w w' := by
  cases s with
  | inl f =>
    obtain ⟨hne, p, hp⟩ := h
    exact (num_fault w R a c bs p f.1 f.2 hp hne).mono fun e w' ⟨h1, h2⟩ => by subst h2; exact ⟨h1, ⟨hne, p, hp⟩, Fr.refl _ _⟩
  | inr p =>
    obtain ⟨hp, h⟩ := h
    have bd : ∀ (cd : Int), cd ≠ 0 → numO bs p = .inl cd → Calls Try.prog 98 #[.pointer (some ⟨R, 0, none⟩)] w (fun e w' => e = .returned (.int .i64 0) ∧ (∃ q : Int, RR w' R a c bs q cd (p : Int)) ∧ Fr (fun k => k = R) w w') → Calls Try.prog 98 #[.pointer (some ⟨R, 0, none⟩)] w fun e w' => e = .returned (.int .i64 (rN bs (.inr p)).1) ∧ RS w' R a c bs (rN bs (.inr p)).2 ∧ Fr (fun k => k = R) w w' := fun cd hc he H => by
      have e1 : rN bs (.inr p) = (0, .inl (cd, (p : Int))) := by simp only [rN, he]
      rw [e1]
      exact H.mono fun e w' ⟨h1, h2, h3⟩ => ⟨h1, ⟨hc, h2⟩, h3⟩
    by_cases h1 : bs.length < p + 1
    · exact bd 6 (by decide) (by unfold numO; rw [if_pos h1]) (num_s1 w R a c bs p h hp hs h1)
    by_cases h8 : 8 < bs.getD p 0
    · exact bd 5 (by decide) (by unfold numO; rw [if_neg h1, if_pos h8]) (num_big w R a c bs p h hs (by omega) h8)
    have hx0 : 0 ≤ bs.getD p 0 := by
      rw [List.getD_eq_getElem?_getD, List.getElem?_eq_getElem (show p < bs.length by omega)]
      exact (hr _ (List.getElem_mem _)).1
    obtain ⟨n, hx⟩ : ∃ n : Nat, bs.getD p 0 = (n : Int) := ⟨(bs.getD p 0).toNat, by omega⟩
    have hn8 : n ≤ 8 := by omega
    have htn : (bs.getD p 0).toNat = n := by omega
    by_cases h2 : bs.length < p + 1 + n
    · exact bd 6 (by decide) (by unfold numO; rw [if_neg h1, if_neg h8, htn, if_pos h2]) (num_s2 w R a c bs p n h hs (by omega) hx hn8 h2)
    by_cases hb : badN ((bs.drop (p + 1)).take n)
    · have hn0 : 0 < n := by
        rcases Nat.eq_zero_or_pos n with h | h
        · subst h
          rw [List.take_zero] at hb
          rcases hb with ⟨h, _⟩ | h
          · exact absurd rfl h
          · exact absurd h (by decide)
        · exact h
      exact bd 5 (by decide) (by unfold numO; rw [if_neg h1, if_neg h8, htn, if_neg h2, if_pos hb]) (num_bad w R a c bs p n h hs (by omega) hx hn8 (by omega) hr hn0 hb)
    have e1 : rN bs (.inr p) = (vL ((bs.drop (p + 1)).take n), .inr (p + 1 + n)) := by
      have : numO bs p = .inr (vL ((bs.drop (p + 1)).take n), p + 1 + n) := by unfold numO; rw [if_neg h1, if_neg h8, htn, if_neg h2, if_neg hb]
      simp only [rN, this]
    rw [e1]
    rcases Nat.eq_zero_or_pos n with h0 | h0
    · subst h0
      exact (num_ok0 w R a c bs p h hs (by omega) hx).mono fun e w' ⟨h1, h2, h3⟩ => ⟨h1, ⟨by omega, h2⟩, h3⟩
    · exact (num_ok w R a c bs p n h hs (by omega) hx hn8 (by omega) hr h0 hb).mono fun e w' ⟨h1, h2, h3⟩ => ⟨h1, ⟨by omega, h2⟩, h3⟩
end ValSC
end Go.Proofs.Ytackcnncjeajpaa

namespace Go.Proofs.Ytackcnncjeajpaa
namespace ValSD
open Go.RowKit
open BlkM WirM WirS ValSA ValSB ValSC ValK
open WirO (rowO)
open WirRT (rng)

set_option maxRecDepth 10000 in
set_option maxHeartbeats 4000000 in
theorem key_fault (w : World) (R : Nat) (a : Option Addr) (c : Nat) (bs : List Int) (p fe fa : Int) (h : RR w R a c bs p fe fa) (hne : fe ≠ 0) :
    Calls Try.prog 102 #[.pointer (some ⟨R, 0, none⟩)] w fun e w' => e = .returned (.agg #[.int .u8 0, .int .u8 0, .int .u8 0, .int .u8 0]) ∧ RR w' R a c bs p fe fa ∧ Fr (fun k => k = R) w w' := by
  obtain ⟨W0, e0⟩ : ∃ X, X = (w.alloc (.cells #[.int .u8 0, .int .u8 0, .int .u8 0, .int .u8 0] 36)).alloc (.cells #[.int .u8 0, .int .u8 0, .int .u8 0, .int .u8 0] 36) := ⟨_, rfl⟩
  have hA : At W0 w.heap.size 36 [.int .u8 0, .int .u8 0, .int .u8 0, .int .u8 0] := by rw [e0]; exact At.alloc (At.new w _ [_, _, _, _]) _
  have hB : At W0 (w.heap.size + 1) 36 [.int .u8 0, .int .u8 0, .int .u8 0, .int .u8 0] := by
    rw [e0]
    have := At.new (w.alloc (.cells #[.int .u8 0, .int .u8 0, .int .u8 0, .int .u8 0] 36)) 36 [.int .u8 0, .int .u8 0, .int .u8 0, .int .u8 0]
    rw [World.size_alloc] at this
    exact this
  have hb0 : Below w.heap.size w W0 := by rw [e0]; exact Below.alloc (Below.alloc (Below.refl _ _) (Nat.le_refl _) _) (by simp) _
  have hRl := h.cell.lt
  have h0 := h.below hb0
  have HB0 := WirS.hide hb0
  have E0 := WirS.hide e0
  have hne1 : ¬ w.heap.size = R := by omega
  have hne2 : ¬ w.heap.size + 1 = R := by omega
  have c1 : W0.cell? ⟨R, 1, none⟩ = some (.int .i64 p) := h0.cell.cell 1
  have HA := WirS.hide hA
  have HK := WirS.hide hB
  have HNE := WirS.hide (And.intro hne1 hne2)
  have HT := WirS.hide (take_fault W0 R a c bs p fe fa 4 p h0 hne)
  have H := WirS.hide h
  clear h hne hA hB hb0 e0 h0 hne1 hne2
  go_enter Try.func102, Try.ntmps102
  go_upto_region 2 with fail
  rw [← E0.out]
  clear E0
  go_upto_region 3 with (go_at_call 169; refine (HT.out).mono ?_; rintro e _ ⟨rfl, rfl⟩)
  have HF := WirS.hide (Fr.refl (fun k => k = R) W0)
  have hA1 := At.fr HA.out HF.out HNE.out.1
  have hK1 := At.fr HK.out HF.out HNE.out.2
  have k0 : W0.cell? ⟨w.heap.size + 1, 0, none⟩ = some (.int .u8 0) := hK1.cell 0
  have k1 : W0.cell? ⟨w.heap.size + 1, 1, none⟩ = some (.int .u8 0) := hK1.cell 1
  have k2 : W0.cell? ⟨w.heap.size + 1, 2, none⟩ = some (.int .u8 0) := hK1.cell 2
  have k3 : W0.cell? ⟨w.heap.size + 1, 3, none⟩ = some (.int .u8 0) := hK1.cell 3
  have kf0 := hK1.frozen 0
  have kf1 := hK1.frozen 1
  have kf2 := hK1.frozen 2
  have kf3 := hK1.frozen 3
  have a0 : W0.cell? ⟨w.heap.size, 0, none⟩ = some (.int .u8 0) := hA1.cell 0
  have a1 : W0.cell? ⟨w.heap.size, 1, none⟩ = some (.int .u8 0) := hA1.cell 1
  have a2 : W0.cell? ⟨w.heap.size, 2, none⟩ = some (.int .u8 0) := hA1.cell 2
  have a3 : W0.cell? ⟨w.heap.size, 3, none⟩ = some (.int .u8 0) := hA1.cell 3
  have af0 := hA1.frozen 0
  have af1 := hA1.frozen 1
  have af2 := hA1.frozen 2
  have af3 := hA1.frozen 3
  clear hA1 hK1 c1
  go_wp2_with fail
  refine wp_loop_rounds 1 ?_
  rw [rounds_succ]
  go_wp2_with fail
  refine bodyPost_ret (v := .agg #[.int .u8 0, .int .u8 0, .int .u8 0, .int .u8 0]) (by simp [results, Try.results102, go_sem, a0, a1, a2, a3]) rfl ?_
  have hbF : Below w.heap.size w ((((W0.setCell ⟨w.heap.size, 0, none⟩ (.int .u8 0)).setCell ⟨w.heap.size, 1, none⟩ (.int .u8 0)).setCell ⟨w.heap.size, 2, none⟩ (.int .u8 0)).setCell ⟨w.heap.size, 3, none⟩ (.int .u8 0)) := (((HB0.out.setCell (p := ⟨w.heap.size, 0, none⟩) (Nat.le_refl _) _).setCell (p := ⟨w.heap.size, 1, none⟩) (Nat.le_refl _) _).setCell (p := ⟨w.heap.size, 2, none⟩) (Nat.le_refl _) _).setCell (p := ⟨w.heap.size, 3, none⟩) (Nat.le_refl _) _
  exact ⟨rfl, H.out.below hbF, Fr.of_below hbF⟩
set_option maxRecDepth 10000 in
set_option maxHeartbeats 4000000 in
theorem key_short (w : World) (R : Nat) (a : Option Addr) (c : Nat) (bs : List Int) (p : Nat) (h : RR w R a c bs (p : Int) 0 0) (hp : p ≤ bs.length) (hs : bs.length ≤ 1099511627776) (h1 : bs.length < p + 4) :
    Calls Try.prog 102 #[.pointer (some ⟨R, 0, none⟩)] w fun e w' => e = .returned (.agg #[.int .u8 0, .int .u8 0, .int .u8 0, .int .u8 0]) ∧ (∃ q : Int, RR w' R a c bs q 6 (p : Int)) ∧ Fr (fun k => k = R) w w' := by
  obtain ⟨W0, e0⟩ : ∃ X, X = (w.alloc (.cells #[.int .u8 0, .int .u8 0, .int .u8 0, .int .u8 0] 36)).alloc (.cells #[.int .u8 0, .int .u8 0, .int .u8 0, .int .u8 0] 36) := ⟨_, rfl⟩
  have hA : At W0 w.heap.size 36 [.int .u8 0, .int .u8 0, .int .u8 0, .int .u8 0] := by rw [e0]; exact At.alloc (At.new w _ [_, _, _, _]) _
  have hB : At W0 (w.heap.size + 1) 36 [.int .u8 0, .int .u8 0, .int .u8 0, .int .u8 0] := by
    rw [e0]
    have := At.new (w.alloc (.cells #[.int .u8 0, .int .u8 0, .int .u8 0, .int .u8 0] 36)) 36 [.int .u8 0, .int .u8 0, .int .u8 0, .int .u8 0]
    rw [World.size_alloc] at this
    exact this
  have hb0 : Below w.heap.size w W0 := by rw [e0]; exact Below.alloc (Below.alloc (Below.refl _ _) (Nat.le_refl _) _) (by simp) _
  have hRl := h.cell.lt
  have h0 := h.below hb0
  have HB0 := WirS.hide hb0
  have E0 := WirS.hide e0
  have hne1 : ¬ w.heap.size = R := by omega
  have hne2 : ¬ w.heap.size + 1 = R := by omega
  have c1 : W0.cell? ⟨R, 1, none⟩ = some (.int .i64 (p : Int)) := h0.cell.cell 1
  have HA := WirS.hide hA
  have HK := WirS.hide hB
  have HNE := WirS.hide (And.intro hne1 hne2)
  have HOL := WirS.hide h.olt
  have HT := WirS.hide (take_short W0 R a c bs p 4 (p : Int) h0 hp h1 hs (by omega))
  clear h hp hs h1 hA hB hb0 e0 h0 hne1 hne2
  go_enter Try.func102, Try.ntmps102
  go_upto_region 2 with fail
  rw [← E0.out]
  clear E0
  go_upto_region 3 with (go_at_call 169; refine (HT.out).mono ?_; rintro e u ⟨rfl, hr, hf⟩; have HR := WirS.hide hr; have HF := WirS.hide hf; clear hr hf)
  have hA1 := At.fr HA.out HF.out HNE.out.1
  have hK1 := At.fr HK.out HF.out HNE.out.2
  have k0 : u.cell? ⟨w.heap.size + 1, 0, none⟩ = some (.int .u8 0) := hK1.cell 0
  have k1 : u.cell? ⟨w.heap.size + 1, 1, none⟩ = some (.int .u8 0) := hK1.cell 1
  have k2 : u.cell? ⟨w.heap.size + 1, 2, none⟩ = some (.int .u8 0) := hK1.cell 2
  have k3 : u.cell? ⟨w.heap.size + 1, 3, none⟩ = some (.int .u8 0) := hK1.cell 3
  have kf0 := hK1.frozen 0
  have kf1 := hK1.frozen 1
  have kf2 := hK1.frozen 2
  have kf3 := hK1.frozen 3
  have a0 : u.cell? ⟨w.heap.size, 0, none⟩ = some (.int .u8 0) := hA1.cell 0
  have a1 : u.cell? ⟨w.heap.size, 1, none⟩ = some (.int .u8 0) := hA1.cell 1
  have a2 : u.cell? ⟨w.heap.size, 2, none⟩ = some (.int .u8 0) := hA1.cell 2
  have a3 : u.cell? ⟨w.heap.size, 3, none⟩ = some (.int .u8 0) := hA1.cell 3
  have af0 := hA1.frozen 0
  have af1 := hA1.frozen 1
  have af2 := hA1.frozen 2
  have af3 := hA1.frozen 3
  clear hA1 hK1 c1
  go_wp2_with fail
  refine wp_loop_rounds 1 ?_
  rw [rounds_succ]
  go_wp2_with fail
  refine bodyPost_ret (v := .agg #[.int .u8 0, .int .u8 0, .int .u8 0, .int .u8 0]) (by simp [results, Try.results102, go_sem, a0, a1, a2, a3]) rfl ?_
  have hst := (((((Fr.refl (fun k => k = w.heap.size) u).setCell (w.heap.size) 0 (.int .u8 0) (fun _ => rfl)).setCell (w.heap.size) 1 (.int .u8 0) (fun _ => rfl)).setCell (w.heap.size) 2 (.int .u8 0) (fun _ => rfl)).setCell (w.heap.size) 3 (.int .u8 0) (fun _ => rfl))
  exact ⟨rfl, ⟨_, HR.out.fr hst (fun e => HNE.out.1 e.symm) (fun k hk e => by have := HOL.out k hk; omega)⟩, ((Fr.of_below HB0.out).trans' HF.out (fun _ _ h => h)).trans' hst (fun i hi e => absurd e (by omega))⟩
set_option maxRecDepth 10000 in
set_option maxHeartbeats 4000000 in
theorem key_ok (w : World) (R : Nat) (a : Option Addr) (c : Nat) (bs : List Int) (p : Nat) (h : RR w R a c bs (p : Int) 0 0) (h1 : p + 4 ≤ bs.length) (hs : bs.length ≤ 1099511627776) (zs : List Int) (hz : (bs.drop p).take 4 = zs) :
    Calls Try.prog 102 #[.pointer (some ⟨R, 0, none⟩)] w fun e w' => e = .returned (.agg #[.int .u8 (zs.getD 0 0), .int .u8 (zs.getD 1 0), .int .u8 (zs.getD 2 0), .int .u8 (zs.getD 3 0)]) ∧ RR w' R a c bs ((p + 4 : Nat) : Int) 0 0 ∧ Fr (fun k => k = R) w w' := by
  obtain ⟨W0, e0⟩ : ∃ X, X = (w.alloc (.cells #[.int .u8 0, .int .u8 0, .int .u8 0, .int .u8 0] 36)).alloc (.cells #[.int .u8 0, .int .u8 0, .int .u8 0, .int .u8 0] 36) := ⟨_, rfl⟩
  have hA : At W0 w.heap.size 36 [.int .u8 0, .int .u8 0, .int .u8 0, .int .u8 0] := by rw [e0]; exact At.alloc (At.new w _ [_, _, _, _]) _
  have hB : At W0 (w.heap.size + 1) 36 [.int .u8 0, .int .u8 0, .int .u8 0, .int .u8 0] := by
    rw [e0]
    have := At.new (w.alloc (.cells #[.int .u8 0, .int .u8 0, .int .u8 0, .int .u8 0] 36)) 36 [.int .u8 0, .int .u8 0, .int .u8 0, .int .u8 0]
    rw [World.size_alloc] at this
    exact this
  have hb0 : Below w.heap.size w W0 := by rw [e0]; exact Below.alloc (Below.alloc (Below.refl _ _) (Nat.le_refl _) _) (by simp) _
  have hRl := h.cell.lt
  have h0 := h.below hb0
  have HB0 := WirS.hide hb0
  have E0 := WirS.hide e0
  have hne1 : ¬ w.heap.size = R := by omega
  have hne2 : ¬ w.heap.size + 1 = R := by omega
  have c1 : W0.cell? ⟨R, 1, none⟩ = some (.int .i64 (p : Int)) := h0.cell.cell 1
  have HA := WirS.hide hA
  have HK := WirS.hide hB
  have HNE := WirS.hide (And.intro hne1 hne2)
  have HOL := WirS.hide h.olt
  have HT := WirS.hide (take_ok2 W0 R a c bs p 4 (p : Int) h0 h1 hs)
  rw [hz] at HT
  have hW2 : w.heap.size + 2 ≤ W0.heap.size := by rw [e0]; simp
  have HW2 := WirS.hide hW2
  clear h hs h1 hA hB hb0 e0 h0 hne1 hne2 hz hW2
  go_enter Try.func102, Try.ntmps102
  go_upto_region 2 with fail
  rw [← E0.out]
  clear E0
  go_upto_region 3 with (go_at_call 169; refine (HT.out).mono ?_; rintro e u ⟨va, vc, rfl, hb, hr, hf, hnb⟩; obtain ⟨B, o, rfl, hc⟩ := cells_of hb (by decide); have y0 := hc 0 (by decide); have y1 := hc 1 (by decide); have y2 := hc 2 (by decide); have y3 := hc 3 (by decide); rw [Nat.add_zero] at y0; have hB1 : ¬ B = w.heap.size := (fun e => by have h1 := hnb B rfl; have h2 := HW2.out; omega); have hB2 : ¬ B = w.heap.size + 1 := (fun e => by have h1 := hnb B rfl; have h2 := HW2.out; omega); have HR := WirS.hide hr; have HF := WirS.hide hf; clear hr hf hb hc hnb)
  have hA1 := At.fr HA.out HF.out HNE.out.1
  have hK1 := At.fr HK.out HF.out HNE.out.2
  have k0 : u.cell? ⟨w.heap.size + 1, 0, none⟩ = some (.int .u8 0) := hK1.cell 0
  have k1 : u.cell? ⟨w.heap.size + 1, 1, none⟩ = some (.int .u8 0) := hK1.cell 1
  have k2 : u.cell? ⟨w.heap.size + 1, 2, none⟩ = some (.int .u8 0) := hK1.cell 2
  have k3 : u.cell? ⟨w.heap.size + 1, 3, none⟩ = some (.int .u8 0) := hK1.cell 3
  have kf0 := hK1.frozen 0
  have kf1 := hK1.frozen 1
  have kf2 := hK1.frozen 2
  have kf3 := hK1.frozen 3
  have a0 : u.cell? ⟨w.heap.size, 0, none⟩ = some (.int .u8 0) := hA1.cell 0
  have a1 : u.cell? ⟨w.heap.size, 1, none⟩ = some (.int .u8 0) := hA1.cell 1
  have a2 : u.cell? ⟨w.heap.size, 2, none⟩ = some (.int .u8 0) := hA1.cell 2
  have a3 : u.cell? ⟨w.heap.size, 3, none⟩ = some (.int .u8 0) := hA1.cell 3
  have af0 := hA1.frozen 0
  have af1 := hA1.frozen 1
  have af2 := hA1.frozen 2
  have af3 := hA1.frozen 3
  clear hA1 hK1 c1
  generalize hz0 : zs.getD 0 0 = z0 at *
  have HZ0 := WirS.hide hz0
  clear hz0
  generalize hz1 : zs.getD 1 0 = z1 at *
  have HZ1 := WirS.hide hz1
  clear hz1
  generalize hz2 : zs.getD 2 0 = z2 at *
  have HZ2 := WirS.hide hz2
  clear hz2
  generalize hz3 : zs.getD 3 0 = z3 at *
  have HZ3 := WirS.hide hz3
  clear hz3
  go_wp2_with fail
  refine wp_loop_rounds 5 ?_
  rw [rounds_succ]
  go_wp2_with fail
  rw [rounds_succ]
  go_wp2_with fail
  rw [rounds_succ]
  go_wp2_with fail
  rw [rounds_succ]
  go_wp2_with fail
  rw [rounds_succ]
  go_wp2_with fail
  refine bodyPost_ret (v := .agg #[.int .u8 z0, .int .u8 z1, .int .u8 z2, .int .u8 z3]) (by simp [results, Try.results102, go_sem, a0, a1, a2, a3]) rfl ?_
  have hst := (((((((((Fr.refl (fun k => k = w.heap.size ∨ k = w.heap.size + 1) u).setCell (w.heap.size + 1) 0 (.int .u8 z0) (fun _ => .inr rfl)).setCell (w.heap.size + 1) 1 (.int .u8 z1) (fun _ => .inr rfl)).setCell (w.heap.size + 1) 2 (.int .u8 z2) (fun _ => .inr rfl)).setCell (w.heap.size + 1) 3 (.int .u8 z3) (fun _ => .inr rfl)).setCell (w.heap.size) 0 (.int .u8 z0) (fun _ => .inl rfl)).setCell (w.heap.size) 1 (.int .u8 z1) (fun _ => .inl rfl)).setCell (w.heap.size) 2 (.int .u8 z2) (fun _ => .inl rfl)).setCell (w.heap.size) 3 (.int .u8 z3) (fun _ => .inl rfl))
  exact ⟨by rw [HZ0.out, HZ1.out, HZ2.out, HZ3.out], HR.out.fr hst (fun e => e.elim (fun e => HNE.out.1 e.symm) (fun e => HNE.out.2 e.symm)) (fun k hk e => by have := HOL.out k hk; omega), ((Fr.of_below HB0.out).trans' HF.out (fun _ _ h => h)).trans' hst (fun i hi e => absurd e (by omega))⟩
theorem rs_key (w : World) (R : Nat) (a : Option Addr) (c : Nat) (bs : List Int) (s : St) (h : RS w R a c bs s) (hs : bs.length ≤ 1099511627776) :
    Calls Try.prog 102 #[.pointer (some ⟨R, 0, none⟩)] w fun e w' => e = .returned (.agg #[.int .u8 ((rK bs s).1.getD 0 0), .int .u8 ((rK bs s).1.getD 1 0), .int .u8 ((rK bs s).1.getD 2 0), .int .u8 ((rK bs s).1.getD 3 0)]) ∧ RS w' R a c bs (rK bs s).2 ∧ Fr (fun k => k = R) w w' := by
  cases s with
  | inl f =>
    obtain ⟨hne, p, hp⟩ := h
    exact (key_fault w R a c bs p f.1 f.2 hp hne).mono fun e w' ⟨h1, h2, h3⟩ => ⟨h1, ⟨hne, p, h2⟩, h3⟩
  | inr p =>
    obtain ⟨hp, h⟩ := h
    by_cases h1 : bs.length < p + 4
    · have e1 : rK bs (.inr p) = ([0, 0, 0, 0], .inl (6, (p : Int))) := by
        have : rowO 4 bs p = .inl 6 := by unfold rowO; rw [if_pos h1]
        simp only [rK, this]
      rw [e1]
      exact (key_short w R a c bs p h hp hs h1).mono fun e w' ⟨h1, h2, h3⟩ => ⟨h1, ⟨show (6 : Int) ≠ 0 by decide, h2⟩, h3⟩
    · have e1 : rK bs (.inr p) = ((bs.drop p).take 4, .inr (p + 4)) := by
        have : rowO 4 bs p = .inr ((bs.drop p).take 4, p + 4) := by unfold rowO; rw [if_neg h1]
        simp only [rK, this]
      rw [e1]
      exact (key_ok w R a c bs p h (by omega) hs _ rfl).mono fun e w' ⟨h1, h2, h3⟩ => ⟨h1, ⟨by omega, h2⟩, h3⟩
set_option maxRecDepth 10000 in
set_option maxHeartbeats 4000000 in
theorem end_fault (w : World) (R : Nat) (a : Option Addr) (c : Nat) (bs : List Int) (p fe fa : Int) (h : RR w R a c bs p fe fa) (hfe : fe ≠ 0) :
    Calls Try.prog 33 #[.pointer (some ⟨R, 0, none⟩)] w fun e w' => e = .returned (.agg #[.int .i64 fe, .int .i64 fa]) ∧ Below w.heap.size w w' := by
  have e1 : (fe == 0) = false := by simpa using hfe
  clear hfe
  obtain ⟨W0, e0⟩ : ∃ X, X = w.alloc (.cells #[.int .i64 0, .int .i64 0] 55) := ⟨_, rfl⟩
  have hA : At W0 w.heap.size 55 [.int .i64 0, .int .i64 0] := by rw [e0]; exact At.new w _ [_, _]
  have hb0 : Below w.heap.size w W0 := by rw [e0]; exact Below.alloc (Below.refl _ _) (Nat.le_refl _) _
  have hRl := h.cell.lt
  have hne : ¬ w.heap.size = R := by omega
  have h0 := h.below hb0
  have c0 : W0.cell? ⟨R, 0, none⟩ = some (.slice a bs.length c) := h0.cell.cell 0
  have c1 : W0.cell? ⟨R, 1, none⟩ = some (.int .i64 p) := h0.cell.cell 1
  have c2 : W0.cell? ⟨R, 2, none⟩ = some (.int .i64 fe) := h0.cell.cell 2
  have c3 : W0.cell? ⟨R, 3, none⟩ = some (.int .i64 fa) := h0.cell.cell 3
  have a0 : W0.cell? ⟨w.heap.size, 0, none⟩ = some (.int .i64 0) := hA.cell 0
  have a1 : W0.cell? ⟨w.heap.size, 1, none⟩ = some (.int .i64 0) := hA.cell 1
  have af0 := hA.frozen 0
  have af1 := hA.frozen 1
  have HB0 := WirS.hide hb0
  have E0 := WirS.hide e0
  have H := WirS.hide h
  generalize bs.length = m at c0
  clear h0 h hA hb0 e0
  go_enter Try.func33, Try.ntmps33
  go_upto_region 1 with fail
  rw [← E0.out]
  clear E0
  go_quiet (fail)
  go_wp2_with fail
  refine bodyPost_ret (v := .agg #[.int .i64 fe, .int .i64 fa]) (by simp [results, Try.results33, go_sem, a0, a1]) rfl ?_
  have hbF := ((below_drewN HB0.out nq).setCell (p := ⟨w.heap.size, 0, none⟩) (Nat.le_refl _) (.int .i64 fe)).setCell (p := ⟨w.heap.size, 1, none⟩) (Nat.le_refl _) (.int .i64 fa)
  exact ⟨rfl, hbF⟩
set_option maxRecDepth 10000 in
set_option maxHeartbeats 4000000 in
theorem end_more (w : World) (R : Nat) (a : Option Addr) (c : Nat) (bs : List Int) (p fe fa : Int) (h : RR w R a c bs p fe fa) (hfe : fe = 0) (hp : p < (bs.length : Int)) :
    Calls Try.prog 33 #[.pointer (some ⟨R, 0, none⟩)] w fun e w' => e = .returned (.agg #[.int .i64 4, .int .i64 p]) ∧ Below w.heap.size w w' := by
  subst hfe
  obtain ⟨W0, e0⟩ : ∃ X, X = w.alloc (.cells #[.int .i64 0, .int .i64 0] 55) := ⟨_, rfl⟩
  have hA : At W0 w.heap.size 55 [.int .i64 0, .int .i64 0] := by rw [e0]; exact At.new w _ [_, _]
  have hb0 : Below w.heap.size w W0 := by rw [e0]; exact Below.alloc (Below.refl _ _) (Nat.le_refl _) _
  have hRl := h.cell.lt
  have hne : ¬ w.heap.size = R := by omega
  have h0 := h.below hb0
  have c0 : W0.cell? ⟨R, 0, none⟩ = some (.slice a bs.length c) := h0.cell.cell 0
  have c1 : W0.cell? ⟨R, 1, none⟩ = some (.int .i64 p) := h0.cell.cell 1
  have c2 : W0.cell? ⟨R, 2, none⟩ = some (.int .i64 0) := h0.cell.cell 2
  have c3 : W0.cell? ⟨R, 3, none⟩ = some (.int .i64 fa) := h0.cell.cell 3
  have a0 : W0.cell? ⟨w.heap.size, 0, none⟩ = some (.int .i64 0) := hA.cell 0
  have a1 : W0.cell? ⟨w.heap.size, 1, none⟩ = some (.int .i64 0) := hA.cell 1
  have af0 := hA.frozen 0
  have af1 := hA.frozen 1
  have HB0 := WirS.hide hb0
  have E0 := WirS.hide e0
  have H := WirS.hide h
  generalize bs.length = m at c0 hp
  have hd : decide (p < (m : Int)) = true := by simpa using hp
  clear h0 h hA hb0 e0
  go_enter Try.func33, Try.ntmps33
  go_upto_region 1 with fail
  rw [← E0.out]
  clear E0
  go_quiet (fail)
  go_wp2_with fail
  refine bodyPost_ret (v := .agg #[.int .i64 4, .int .i64 p]) (by simp [results, Try.results33, go_sem, a0, a1]) rfl ?_
  have hbF := ((below_drewN HB0.out nq).setCell (p := ⟨w.heap.size, 0, none⟩) (Nat.le_refl _) (.int .i64 4)).setCell (p := ⟨w.heap.size, 1, none⟩) (Nat.le_refl _) (.int .i64 p)
  exact ⟨rfl, hbF⟩
set_option maxRecDepth 10000 in
set_option maxHeartbeats 4000000 in
theorem end_fine (w : World) (R : Nat) (a : Option Addr) (c : Nat) (bs : List Int) (p fe fa : Int) (h : RR w R a c bs p fe fa) (hfe : fe = 0) (hp : ¬ p < (bs.length : Int)) :
    Calls Try.prog 33 #[.pointer (some ⟨R, 0, none⟩)] w fun e w' => e = .returned (.agg #[.int .i64 0, .int .i64 fa]) ∧ Below w.heap.size w w' := by
  subst hfe
  obtain ⟨W0, e0⟩ : ∃ X, X = w.alloc (.cells #[.int .i64 0, .int .i64 0] 55) := ⟨_, rfl⟩
  have hA : At W0 w.heap.size 55 [.int .i64 0, .int .i64 0] := by rw [e0]; exact At.new w _ [_, _]
  have hb0 : Below w.heap.size w W0 := by rw [e0]; exact Below.alloc (Below.refl _ _) (Nat.le_refl _) _
  have hRl := h.cell.lt
  have hne : ¬ w.heap.size = R := by omega
  have h0 := h.below hb0
  have c0 : W0.cell? ⟨R, 0, none⟩ = some (.slice a bs.length c) := h0.cell.cell 0
  have c1 : W0.cell? ⟨R, 1, none⟩ = some (.int .i64 p) := h0.cell.cell 1
  have c2 : W0.cell? ⟨R, 2, none⟩ = some (.int .i64 0) := h0.cell.cell 2
  have c3 : W0.cell? ⟨R, 3, none⟩ = some (.int .i64 fa) := h0.cell.cell 3
  have a0 : W0.cell? ⟨w.heap.size, 0, none⟩ = some (.int .i64 0) := hA.cell 0
  have a1 : W0.cell? ⟨w.heap.size, 1, none⟩ = some (.int .i64 0) := hA.cell 1
  have af0 := hA.frozen 0
  have af1 := hA.frozen 1
  have HB0 := WirS.hide hb0
  have E0 := WirS.hide e0
  have H := WirS.hide h
  generalize bs.length = m at c0 hp
  have hd : decide (p < (m : Int)) = false := by simpa using hp
  clear h0 h hA hb0 e0
  go_enter Try.func33, Try.ntmps33
  go_upto_region 1 with fail
  rw [← E0.out]
  clear E0
  go_quiet (fail)
  go_wp2_with fail
  refine bodyPost_ret (v := .agg #[.int .i64 0, .int .i64 fa]) (by simp [results, Try.results33, go_sem, a0, a1]) rfl ?_
  have hbF := ((below_drewN HB0.out nq).setCell (p := ⟨w.heap.size, 0, none⟩) (Nat.le_refl _) (.int .i64 0)).setCell (p := ⟨w.heap.size, 1, none⟩) (Nat.le_refl _) (.int .i64 fa)
  exact ⟨rfl, hbF⟩
theorem rs_end (w : World) (R : Nat) (a : Option Addr) (c : Nat) (bs : List Int) (s : St) (h : RS w R a c bs s) :
    Calls Try.prog 33 #[.pointer (some ⟨R, 0, none⟩)] w fun e w' => e = .returned (.agg #[.int .i64 (endS bs s).1, .int .i64 (endS bs s).2]) ∧ Below w.heap.size w w' := by
  cases s with
  | inl f =>
    obtain ⟨hne, p, hp⟩ := h
    exact end_fault w R a c bs p f.1 f.2 hp hne
  | inr p =>
    obtain ⟨hp, h⟩ := h
    unfold endS
    by_cases h1 : p < bs.length
    · simp only [h1, if_true]
      exact end_more w R a c bs p 0 0 h rfl (by omega)
    · simp only [h1, if_false]
      exact end_fine w R a c bs p 0 0 h rfl (by omega)
end ValSD
end Go.Proofs.Ytackcnncjeajpaa

namespace Go.Proofs.Ytackcnncjeajpaa
namespace ValSE
open Go.RowKit
open BlkM WirM WirS ValA ValD ValK ValSA ValSB ValSC ValSD ValY
open WirRT (rng)

theorem RS.fr {X : Nat → Prop} {w w' : World} {R : Nat} {a : Option Addr} {c : Nat} {bs : List Int} {s : St} (h : RS w R a c bs s) (hf : Fr X w w') (h1 : ¬ X R) (h2 : ∀ k, (Value.slice a bs.length c).ownBlock = some k → ¬ X k) : RS w' R a c bs s := by
  cases s with
  | inl f =>
    obtain ⟨hne, p, hp⟩ := h
    exact ⟨hne, p, hp.fr hf h1 h2⟩
  | inr p =>
    obtain ⟨hp, h⟩ := h
    exact ⟨hp, h.fr hf h1 h2⟩
theorem RS.below {w w' : World} {R : Nat} {a : Option Addr} {c : Nat} {bs : List Int} {s : St} (h : RS w R a c bs s) (hb : Below w.heap.size w w') : RS w' R a c bs s := RS.fr h (X := fun _ => False) (Fr.of_below hb) (fun h => h) (fun _ _ h => h)
def DecR (w : World) (bs : List Int) (e : Ending) (w' : World) : Prop :=
  ∃ va vn vc, e = .returned (.tuple #[.slice va vn vc, .agg #[.int .i64 (dec bs).1.1, .int .i64 (dec bs).1.2]]) ∧ OwnV w' (.slice va vn vc) (dec bs).2 ∧ Below w.heap.size w w'
theorem at_new' {A C : World} {k : Nat} {T : TypeId} {cs : List Value} (h : At A k T cs) (hB : Below A.heap.size A C) : At C k T cs := h.below hB h.lt
/-- What lies apart from what grows. -/
structure Ap (w : World) (b S R : Nat) (a : Option Addr) (c : Nat) (bs : List Int) : Prop where
  wb : w.heap.size ≤ b
  wS : w.heap.size = S
  Sb : S < b
  wR : w.heap.size < R
  Rb : R < b
  ob : ∀ k, (Value.slice a bs.length c).ownBlock = some k → k < b ∧ S < k ∧ k ≠ R
def MidX (w : World) (b S R : Nat) (a : Option Addr) (c : Nat) (bs : List Int) (s0 : St) (n : Nat) (v i : Value) (U : World) : Prop :=
  ∃ k : Nat, k ≤ n ∧ i = .int .i64 (k : Int) ∧ RS U R a c bs (itS bs s0 k).2 ∧ OwnV U v (itS bs s0 k).1 ∧ (∀ q, v.ownBlock = some q → b ≤ q) ∧ At U S 55 [.int .i64 0, .int .i64 0] ∧ b ≤ U.heap.size ∧ Below w.heap.size w U
theorem app_b (b : Nat) (w U : World) (v : Value) (pre : List Vd) (y : Vd) (hO : OwnV U v pre) (hN : ∀ q, v.ownBlock = some q → b ≤ q) (hb : b ≤ U.heap.size) (hwb : w.heap.size ≤ b) (hB : Below w.heap.size w U) (hy : y.ok) (hl : pre.length < 1000000) (g : Nat) (hg : U.heap.size = g) :
    ∃ v' u', (Builtin.append_ #[80, 80] 80 #[v, .slice (some ⟨g, 0, none⟩) 1 1]).run Try.prog (U.alloc (.cells #[.int .u8 y.a, .int .u8 y.b, .int .u8 y.c, .int .u8 y.d, .int .i64 y.p] 100)) = .ok v' u' ∧ OwnV u' v' (pre ++ [y]) ∧ (∀ q, v'.ownBlock = some q → b ≤ q) ∧ Below w.heap.size w u' ∧ Fr (fun k => v.ownBlock = some k) U u' := by
  subst hg
  have hal : Below U.heap.size U (U.alloc (.cells #[.int .u8 y.a, .int .u8 y.b, .int .u8 y.c, .int .u8 y.d, .int .i64 y.p] 100)) := Below.alloc (Below.refl _ _) (Nat.le_refl _) _
  obtain ⟨v', u', hrun, ho, hf, hn⟩ := app_vals (U.alloc (.cells #[.int .u8 y.a, .int .u8 y.b, .int .u8 y.c, .int .u8 y.d, .int .i64 y.p] 100)) 80 80 v (.slice (some ⟨U.heap.size, 0, none⟩) 1 1) pre [y] (hO.below hal) (src_one Try.underlying80 _ 0 1 _ (fun j v hj => by rw [Nat.zero_add]; exact ((At.new U _ (Vd.cells y)).cell j).trans hj)) (fun z hz => by rw [List.mem_singleton.1 hz]; exact hy) (by simp; omega)
  have hs := hB.size
  refine ⟨v', u', hrun, ho, fun q hq => ?_, (hB.trans (hal.mono hs)).trans (hf.below (by simp; omega) (fun q hq hx => by have := hN q hx; omega)), (Fr.of_below hal).trans' hf (fun _ _ h => h)⟩
  rcases hn q hq with h3 | h3
  · exact hN q h3
  · simp at h3
    omega
set_option maxRecDepth 10000 in
set_option maxHeartbeats 20000000 in
theorem rdecode_any (w : World) (b : Option Addr) (n0 c0 : Nat) (bs : List Int) (hb : BIn w (.slice b n0 c0) bs) (hr : rng bs) (hn : n0 ≤ 1099511627776) :
    Calls Try.prog 49 #[.slice b n0 c0] w (DecR w bs) := by
  obtain ⟨S, eS⟩ : ∃ S, w.heap.size = S := ⟨_, rfl⟩
  obtain ⟨W0, e0⟩ : ∃ X, X = w.alloc (.cells #[.int .i64 0, .int .i64 0] 55) := ⟨_, rfl⟩
  have hA0 : At W0 S 55 [.int .i64 0, .int .i64 0] := by rw [e0, ← eS]; exact At.new w _ [_, _]
  have hb0 : Below w.heap.size w W0 := by rw [e0]; exact Below.alloc (Below.refl _ _) (Nat.le_refl _) _
  have hW0 : W0.heap.size = w.heap.size + 1 := by rw [e0]; simp
  have hbl : bs.length = n0 := by obtain ⟨_, _, e, _⟩ := hb; cases e; rfl
  have HS := WirS.hide (show bs.length ≤ 1099511627776 by omega)
  have HNR := WirS.hide (newr_any W0 b n0 c0 bs (hb.below hb0) hn)
  have HR0 := WirS.hide hr
  have HA0 := WirS.hide hA0
  have HB0 := WirS.hide hb0
  have HW0 := WirS.hide hW0
  have ES := WirS.hide eS
  have E0 := WirS.hide e0
  obtain ⟨D, hD⟩ : ∃ D, dec bs = D := ⟨_, rfl⟩
  have HDD := WirS.hide hD
  unfold DecR
  rw [hD]
  clear hb hr hn hA0 hb0 hW0 hbl e0 hD
  go_enter Try.func49, Try.ntmps49
  go_upto_region 1 with fail
  rw [← E0.out]
  try rw [eS]
  clear E0 eS
  go_upto_region 2 with (go_at_call 28; refine (HNR.out).mono ?_; rintro e u1 ⟨R, a, c, rfl, hR, hrr, hnb, hb⟩; have HRR := WirS.hide hrr; have HRB := WirS.hide hR; have HNB := WirS.hide hnb; have HB1 := WirS.hide hb; clear hrr hR hnb hb)
  have hap : Ap w u1.heap.size S R a c bs := by
    have h1 := HB0.out.size
    have h2 := HB1.out.size
    have h3 := HW0.out
    have h4 := HRB.out
    have h5 := ES.out
    have h6 := HRR.out.cell.lt
    exact ⟨by omega, h5, by omega, by omega, h6, fun k hk => ⟨HRR.out.olt k hk, by have := HNB.out k hk; omega, fun e => HRR.out.off (by rw [hk, e])⟩⟩
  have HAP := WirS.hide hap
  have HA1 := WirS.hide (at_new' HA0.out HB1.out)
  have HB2 := WirS.hide (HB0.out.trans (HB1.out.mono HB0.out.size))
  have HRS := WirS.hide (show RS u1 R a c bs (.inr 0) from ⟨Nat.zero_le _, HRR.out⟩)
  clear hap HNR HNB HRR HRB HA0 HW0
  have hN1 := rN_ok HR0.out (.inr 0)
  have HNUM := WirS.hide (rs_num u1 R a c bs (.inr 0) HRS.out HS.out HR0.out)
  obtain ⟨n, hnn⟩ : ∃ n : Nat, (rN bs (.inr 0)).1 = (n : Int) := ⟨(rN bs (.inr 0)).1.toNat, by omega⟩
  obtain ⟨s0, hs0⟩ : ∃ s, (rN bs (.inr 0)).2 = s := ⟨_, rfl⟩
  rw [hnn, hs0] at HNUM
  have HDE := WirS.hide (show D = if 64 < n then ((4, 0), []) else if (endS bs (itS bs s0 n).2).1 ≠ 0 then (endS bs (itS bs s0 n).2, []) else if chk (itS bs s0 n).1 ≠ 0 then ((chk (itS bs s0 n).1, 0), []) else ((0, 0), (itS bs s0 n).1) by
    rw [← HDD.out]
    unfold dec
    rw [hnn, hs0, Int.toNat_natCast]
    by_cases h : 64 < n
    · rw [if_pos h, if_pos (by omega)]
    · rw [if_neg h, if_neg (by omega)])
  have hn63 : n ≤ 9223372036854775807 := by omega
  clear hN1 hnn hs0 HDD HRS
  go_upto_region 3 with (go_at_call 98; refine (HNUM.out).mono ?_; rintro e u2 ⟨rfl, hs, hf⟩; have HSS := WirS.hide hs; have HF2 := WirS.hide hf; clear hs hf)
  have hA2 := At.fr HA1.out HF2.out (fun e => by have h1 := HAP.out.wS; have h2 := HAP.out.wR; omega)
  have HB3 := WirS.hide (HB2.out.trans (HF2.out.below HB2.out.size (fun k hk e => by have := HAP.out.wR; omega)))
  have HU2 := WirS.hide HF2.out.size
  by_cases h64 : 64 < n
  · have g1 : (64 : Int) < (n : Int) := by omega
    rw [if_pos h64] at HDE
    have a0 : u2.cell? ⟨S, 0, none⟩ = some (.int .i64 0) := hA2.cell 0
    have a1 : u2.cell? ⟨S, 1, none⟩ = some (.int .i64 0) := hA2.cell 1
    have af0 := hA2.frozen 0
    have af1 := hA2.frozen 1
    clear hA2
    go_wp2_with fail
    refine bodyPost_ret (v := .tuple #[.slice none 0 0, .agg #[.int .i64 4, .int .i64 0]]) (by simp [results, Try.results49, go_sem, a0, a1]) rfl ?_
    refine ⟨none, 0, 0, by rw [HDE.out], by rw [HDE.out]; exact OwnV.nil _, ?_⟩
    exact (HB3.out.setCell (p := ⟨S, 0, none⟩) (by rw [ES.out]; exact Nat.le_refl _) _).setCell (p := ⟨S, 1, none⟩) (by rw [ES.out]; exact Nat.le_refl _) _
  rw [if_neg h64] at HDE
  have g1 : ¬ (64 : Int) < (n : Int) := by omega
  have HST := WirS.hide (show MidX w u1.heap.size S R a c bs s0 n (.slice none 0 0) (.int .i64 0) u2 from ⟨0, Nat.zero_le _, rfl, HSS.out, OwnV.nil _, fun q hq => by simp [Value.ownBlock] at hq, hA2, HU2.out, HB3.out⟩)
  generalize u1.heap.size = bb at *
  clear hA2
  go_wp2_with fail
  go_loopw [6, 7] (fun v i wr => MidX w bb S R a c bs s0 n v i wr) (fun _ i _ => n - (intOf i).toNat)
  case atStart => exact HST.out
  case round =>
    clear HST
    obtain ⟨k, hk, rfl, hS, hO, hN, hA, hbb, hB⟩ := hrel
    by_cases hlt : k < n
    · obtain ⟨pre, s, hit⟩ : ∃ pre s, itS bs s0 k = (pre, s) := ⟨_, _, rfl⟩
      rw [hit] at hS hO
      have hpl : pre.length = k := by have := itS_len bs s0 k; rwa [hit] at this
      have hkl : (k : Int) < (n : Int) := by omega
      have HKY := WirS.hide (rs_key wr R a c bs s hS HS.out)
      have hyo := mkV_ok HR0.out s (rK bs s).2
      have hit1 : itS bs s0 (k + 1) = (pre ++ [mkV (rK bs s).1 (rN bs (rK bs s).2).1], (rN bs (rK bs s).2).2) := by rw [itS, hit]
      obtain ⟨s1, hs1⟩ : ∃ t, (rK bs s).2 = t := ⟨_, rfl⟩
      rw [hs1] at HKY hyo hit1
      obtain ⟨s2, hs2⟩ : ∃ t, (rN bs s1).2 = t := ⟨_, rfl⟩
      obtain ⟨p1, hp1⟩ : ∃ t, (rN bs s1).1 = t := ⟨_, rfl⟩
      have HNM := WirS.hide (fun (U : World) (h : RS U R a c bs s1) => (show Calls Try.prog 98 #[.pointer (some ⟨R, 0, none⟩)] U (fun e w' => e = .returned (.int .i64 p1) ∧ RS w' R a c bs s2 ∧ Fr (fun k => k = R) U w') from by have := rs_num U R a c bs s1 h HS.out HR0.out; rwa [hp1, hs2] at this))
      rw [hp1, hs2] at hit1
      rw [hp1] at hyo
      unfold mkV at hyo hit1
      generalize (rK bs s).1.getD 0 0 = z0 at *
      generalize (rK bs s).1.getD 1 0 = z1 at *
      generalize (rK bs s).1.getD 2 0 = z2 at *
      generalize (rK bs s).1.getD 3 0 = z3 at *
      have HIT := WirS.hide hit1
      have HYO := WirS.hide hyo
      have HO := WirS.hide hO
      have HN := WirS.hide hN
      have HA := WirS.hide hA
      have HB := WirS.hide hB
      have HPL := WirS.hide (show pre.length ≤ 64 by omega)
      have HBB := WirS.hide hbb
      clear hS hO hN hA hB hbb hit hit1 hyo hs1 hs2 hp1 hpl
      go_upto_region 10 with (go_at_call 102; refine (HKY.out).mono ?_; rintro e u3 ⟨rfl, hs, hf⟩; have HS3 := WirS.hide hs; have HF3 := WirS.hide hf; clear hs hf)
      have hK := At.new u3 36 [.int .u8 z0, .int .u8 z1, .int .u8 z2, .int .u8 z3]
      obtain ⟨W3, e3⟩ : ∃ Y, Y = u3.alloc (.cells #[.int .u8 z0, .int .u8 z1, .int .u8 z2, .int .u8 z3] 36) := ⟨_, rfl⟩
      have h33 : Below u3.heap.size u3 W3 := by rw [e3]; exact Below.alloc (Below.refl _ _) (Nat.le_refl _) _
      rw [show u3.alloc (.cells [Value.int .u8 z0, .int .u8 z1, .int .u8 z2, .int .u8 z3].toArray 36) = W3 from e3.symm] at hK
      have hF4 : Fr (fun k => k = R) wr W3 := HF3.out.trans (Fr.of_below h33)
      have HK := WirS.hide hK
      have HF4 := WirS.hide hF4
      have HS4 := WirS.hide (RS.below HS3.out h33)
      have HKS := WirS.hide (show wr.heap.size ≤ u3.heap.size from HF3.out.size)
      rw [← e3]
      obtain ⟨K, eK⟩ : ∃ K, u3.heap.size = K := ⟨_, rfl⟩
      rw [eK] at HK HKS ⊢
      clear e3 h33 hK hF4 HS3 HF3 eK
      have k0 : W3.cell? ⟨K, 0, none⟩ = some (.int .u8 z0) := HK.out.cell 0
      have k1 : W3.cell? ⟨K, 1, none⟩ = some (.int .u8 z1) := HK.out.cell 1
      have k2 : W3.cell? ⟨K, 2, none⟩ = some (.int .u8 z2) := HK.out.cell 2
      have k3 : W3.cell? ⟨K, 3, none⟩ = some (.int .u8 z3) := HK.out.cell 3
      have HSTEP := WirS.hide (fun (w1 : World) (hs : RS w1 R a c bs s2) (hf : Fr (fun k => k = R) W3 w1) => (show (∃ v' u', (Builtin.append_ #[80, 80] 80 #[u6, .slice (some ⟨w1.heap.size, 0, none⟩) 1 1]).run Try.prog (w1.alloc (.cells #[.int .u8 z0, .int .u8 z1, .int .u8 z2, .int .u8 z3, .int .i64 p1] 100)) = .ok v' u' ∧ (u'.cell? ⟨K, 0, none⟩ = some (.int .u8 z0) ∧ u'.cell? ⟨K, 1, none⟩ = some (.int .u8 z1) ∧ u'.cell? ⟨K, 2, none⟩ = some (.int .u8 z2) ∧ u'.cell? ⟨K, 3, none⟩ = some (.int .u8 z3)) ∧ MidX w bb S R a c bs s0 n v' (.int .i64 ((k : Int) + 1)) u') ∧ (w1.cell? ⟨K, 0, none⟩ = some (.int .u8 z0) ∧ w1.cell? ⟨K, 1, none⟩ = some (.int .u8 z1) ∧ w1.cell? ⟨K, 2, none⟩ = some (.int .u8 z2) ∧ w1.cell? ⟨K, 3, none⟩ = some (.int .u8 z3)) from by
        have hRb := HAP.out.Rb
        have hSb := HAP.out.Sb
        have hwb := HAP.out.wb
        have hbb := HBB.out
        have hKR : ¬ K = R := by have := HKS.out; omega
        have hfw : Fr (fun k => k = R) wr w1 := HF4.out.trans hf
        have hK1 := At.fr HK.out hf hKR
        have hO1 : OwnV w1 u6 pre := HO.out.fr hfw (fun q hq e => by have := HN.out q hq; omega)
        have hA1 := At.fr HA.out hfw (fun e => by have h1 := HAP.out.wS; have h2 := HAP.out.wR; omega)
        have hB1 : Below w.heap.size w w1 := HB.out.trans (hfw.below HB.out.size (fun q hq e => by have := HAP.out.wR; omega))
        have hsz := hfw.size
        obtain ⟨v', u', hrun, ho, hn, hB', hF'⟩ := app_b bb w w1 u6 pre ⟨z0, z1, z2, z3, p1⟩ hO1 HN.out (by omega) hwb hB1 HYO.out (by have := HPL.out; omega) w1.heap.size rfl
        have hvk : ∀ q, u6.ownBlock = some q → q < K := fun q hq => by have h1 := HO.out.lt q hq; have := HKS.out; omega
        have hK2 := At.fr hK1 hF' (fun e => by have := hvk K e; omega)
        refine ⟨⟨v', u', hrun, ⟨hK2.cell 0, hK2.cell 1, hK2.cell 2, hK2.cell 3⟩, ⟨k + 1, by omega, by rw [Int.natCast_add]; rfl, ?_, ?_, hn, At.fr hA1 hF' (fun e => by have := HN.out _ e; omega), Nat.le_trans (by omega) hF'.size, hB'⟩⟩, ⟨hK1.cell 0, hK1.cell 1, hK1.cell 2, hK1.cell 3⟩⟩
        · rw [HIT.out]
          exact RS.fr hs hF' (fun e => by have := HN.out _ e; omega) (fun q hq e => by have h1 := (HAP.out.ob q hq).1; have h2 := HN.out q e; omega)
        · rw [HIT.out]
          exact ho))
      go_region_held3 (fun w' => w'.cell? ⟨K, 0, none⟩ = some (.int .u8 z0) ∧ w'.cell? ⟨K, 1, none⟩ = some (.int .u8 z1) ∧ w'.cell? ⟨K, 2, none⟩ = some (.int .u8 z2) ∧ w'.cell? ⟨K, 3, none⟩ = some (.int .u8 z3)) (go_keep)
        (first | (go_at_call 98; refine (HNM.out _ (RS.below HS4.out (below_drewN (Below.refl _ _) 1))).mono ?_; rintro e w1 ⟨rfl, hs, hf⟩; obtain ⟨⟨v', u', hrun, ⟨f0, f1, f2, f3⟩, hM⟩, ⟨d0, d1, d2, d3⟩⟩ := HSTEP.out w1 hs ((Fr.of_below (below_drewN (Below.refl _ _) 1)).trans hf); have HRUN := WirS.hide hrun; have HM := WirS.hide hM; clear hs hf hrun hM) | (refine ValF.step_app rfl _ _ _ _ rfl _ _ rfl rfl v' u' HRUN.out ?_))
      go_wp2_with fail
      go_roundw
      case rel => exact HM.out
      case measure => simp [intOf]; omega
    · obtain rfl : k = n := by omega
      have hkl : ¬ (k : Int) < (k : Int) := by omega
      obtain ⟨ls, s, hit⟩ : ∃ pre s, itS bs s0 k = (pre, s) := ⟨_, _, rfl⟩
      rw [hit] at hS hO HDE
      have hpl : ls.length = k := by have := itS_len bs s0 k; rwa [hit] at this
      have HEN := WirS.hide (rs_end wr R a c bs s hS)
      have hfz : (endS bs s).1 = 0 → (endS bs s).2 = 0 := fun h => by
        cases s with
        | inl f => exact absurd h hS.1
        | inr p =>
          unfold endS at h ⊢
          by_cases h1 : p < bs.length
          · simp [h1] at h
          · simp [h1]
      obtain ⟨fe, hfe⟩ : ∃ t, (endS bs s).1 = t := ⟨_, rfl⟩
      obtain ⟨fa, hfa⟩ : ∃ t, (endS bs s).2 = t := ⟨_, rfl⟩
      have hff : endS bs s = (fe, fa) := by rw [← hfe, ← hfa]
      rw [hfe, hfa] at HEN
      rw [hfe, hfa] at hfz
      rw [hff] at HDE
      obtain ⟨va, vc, rfl⟩ := hO.len_of
      rw [hpl] at hO hN ⊢
      have HO := WirS.hide hO
      have HA := WirS.hide hA
      have HB := WirS.hide hB
      have HVN := WirS.hide (fun q (hq : (Value.slice va k vc).ownBlock = some q) => (And.intro (hO.lt q hq) (hN q hq)))
      have HSW := WirS.hide (show S < wr.heap.size by have := hA.lt; exact this)
      clear hS hO hN hA hB hbb hit hpl hfe hfa hff
      go_upto_region 12 with (go_at_call 33; refine (HEN.out).mono ?_; rintro e u3 ⟨rfl, hb⟩; have H3 := WirS.hide hb; clear hb)
      have hK := At.new u3 55 [.int .i64 fe, .int .i64 fa]
      obtain ⟨W3, e3⟩ : ∃ Y, Y = u3.alloc (.cells #[.int .i64 fe, .int .i64 fa] 55) := ⟨_, rfl⟩
      have h33 : Below u3.heap.size u3 W3 := by rw [e3]; exact Below.alloc (Below.refl _ _) (Nat.le_refl _) _
      rw [show u3.alloc (.cells [Value.int .i64 fe, .int .i64 fa].toArray 55) = W3 from e3.symm] at hK
      have hw3 : Below wr.heap.size wr W3 := H3.out.trans (h33.mono H3.out.size)
      have HK := WirS.hide hK
      have HWF := WirS.hide (show wr.heap.size ≤ u3.heap.size from H3.out.size)
      have HKS := WirS.hide (show S < u3.heap.size from Nat.lt_of_lt_of_le HSW.out H3.out.size)
      have HKW := WirS.hide (show w.heap.size ≤ u3.heap.size from Nat.le_trans HB.out.size H3.out.size)
      have HO3 := WirS.hide (HO.out.below hw3)
      have HA3 := WirS.hide (at_new' HA.out hw3)
      have HB3 := WirS.hide (HB.out.trans (hw3.mono HB.out.size))
      rw [← e3]
      generalize u3.heap.size = F at *
      have hFS : ¬ F = S := by have := HKS.out; omega
      have hSF : ¬ S = F := by have := HKS.out; omega
      clear e3 h33 hK hw3 HO HA HB H3
      have hst : ∀ (U : World), Below w.heap.size w U → ∀ x y : Int, Below w.heap.size w ((U.setCell ⟨S, 0, none⟩ (.int .i64 x)).setCell ⟨S, 1, none⟩ (.int .i64 y)) := fun U h x y => (h.setCell (p := ⟨S, 0, none⟩) (by rw [ES.out]; exact Nat.le_refl _) _).setCell (p := ⟨S, 1, none⟩) (by rw [ES.out]; exact Nat.le_refl _) _
      have HSTT := WirS.hide hst
      clear hst
      have f0 : W3.cell? ⟨F, 0, none⟩ = some (.int .i64 fe) := HK.out.cell 0
      have f1 : W3.cell? ⟨F, 1, none⟩ = some (.int .i64 fa) := HK.out.cell 1
      have t0 : W3.cell? ⟨S, 0, none⟩ = some (.int .i64 0) := HA3.out.cell 0
      have t1 : W3.cell? ⟨S, 1, none⟩ = some (.int .i64 0) := HA3.out.cell 1
      have tf0 := HA3.out.frozen 0
      have tf1 := HA3.out.frozen 1
      by_cases h0 : fe = 0
      · subst h0
        obtain rfl : fa = 0 := hfz rfl
        rw [if_neg (by simp)] at HDE
        have HCK := WirS.hide (fun (cd : Int) (h : chk ls = cd) => (show Calls Try.prog 142 #[.slice va k vc] W3 (fun e w' => e = .returned (.int .i64 cd) ∧ Below W3.heap.size W3 w') from by rw [← h]; exact ValRB.rcheck_any W3 va k vc ls HO3.out.vin))
        have HON := WirS.hide (fun (U U' : World) (hb : Below W3.heap.size W3 U) (hf : Fr (fun k => k = F ∨ k = S) U U') => (show OwnV U' (.slice va k vc) ls from (HO3.out.below hb).fr hf (fun q hq e => by
          have h1 := HVN.out q hq
          have h2 := HAP.out.Sb
          have h3 := HWF.out
          omega)))
        have HSF := WirS.hide (fun (U : World) (hb : Below W3.heap.size W3 U) => (And.intro (at_new' HK.out hb) (at_new' HA3.out hb)))
        clear f0 f1 t0 t1 tf0 tf1 hfz
        have HBF := WirS.hide (fun (U : World) (h : Below w.heap.size w U) (x : Int) => h.setCell (p := ⟨F, 0, none⟩) HKW.out (.int .i64 x))
        obtain ⟨cd, hcd⟩ : ∃ t, chk ls = t := ⟨_, rfl⟩
        rw [hcd] at HDE
        have HC2 := WirS.hide (HCK.out cd hcd)
        have f0 : W3.cell? ⟨F, 0, none⟩ = some (.int .i64 0) := HK.out.cell 0
        have f1 : W3.cell? ⟨F, 1, none⟩ = some (.int .i64 0) := HK.out.cell 1
        clear hcd HCK
        by_cases hc : cd = 0
        · subst hc
          rw [if_neg (by simp)] at HDE
          go_upto_region 14 with (go_at_call 142; refine (HC2.out).mono ?_; rintro e u4 ⟨rfl, hb⟩; have hFK := (HSF.out u4 hb).1; have hSK := (HSF.out u4 hb).2; have f0 : u4.cell? ⟨F, 0, none⟩ = some (.int .i64 0) := hFK.cell 0; have f1 : u4.cell? ⟨F, 1, none⟩ = some (.int .i64 0) := hFK.cell 1; have ff0 := hFK.frozen 0; have t0 : u4.cell? ⟨S, 0, none⟩ = some (.int .i64 0) := hSK.cell 0; have t1 : u4.cell? ⟨S, 1, none⟩ = some (.int .i64 0) := hSK.cell 1; have tf0 := hSK.frozen 0; have tf1 := hSK.frozen 1; have H4 := WirS.hide hb; have HB4 := WirS.hide (HB3.out.trans (hb.mono HB3.out.size)); have HFK := WirS.hide hFK; have HSK := WirS.hide hSK; clear hb hFK hSK)
          go_wp2_with fail
          have hF5 := HFK.out.setCell 0 (.int .i64 0)
          have hR5 := (Fr.refl (fun k => k = F) u4).setCell F 0 (.int .i64 0) (fun _ => rfl)
          have hS5 := At.fr HSK.out hR5 hSF
          have hB5 := HBF.out _ HB4.out 0
          obtain ⟨W5, e5⟩ : ∃ Y, Y = u4.setCell ⟨F, 0, none⟩ (.int .i64 0) := ⟨_, rfl⟩
          rw [← e5] at hF5 hR5 hS5 hB5
          rw [← e5]
          clear e5 f0 f1 ff0 t0 t1 tf0 tf1
          have f0 : W5.cell? ⟨F, 0, none⟩ = some (.int .i64 0) := hF5.cell 0
          have f1 : W5.cell? ⟨F, 1, none⟩ = some (.int .i64 0) := hF5.cell 1
          have t0 : W5.cell? ⟨S, 0, none⟩ = some (.int .i64 0) := hS5.cell 0
          have t1 : W5.cell? ⟨S, 1, none⟩ = some (.int .i64 0) := hS5.cell 1
          have tf0 := hS5.frozen 0
          have tf1 := hS5.frozen 1
          have HR5 := WirS.hide hR5
          have HB5 := WirS.hide hB5
          clear hF5 hR5 hS5 hB5
          go_region_held3 (fun w' => w'.cell? ⟨F, 0, none⟩ = some (.int .i64 0) ∧ w'.cell? ⟨F, 1, none⟩ = some (.int .i64 0)) (go_keep) (fail)
          go_wp2_with fail
          refine bodyPost_ret (v := .tuple #[.slice va k vc, .agg #[.int .i64 0, .int .i64 0]]) (by simp [results, Try.results49, go_sem, t0, t1]) rfl ?_
          refine ⟨va, k, vc, by rw [HDE.out], ?_, (HSTT.out _ HB5.out 0 0).drew⟩
          rw [HDE.out]
          exact HON.out u4 _ H4.out ((((HR5.out.mono (fun k _ e => Or.inl e) : Fr (fun k => k = F ∨ k = S) u4 W5)).setCell S 0 (.int .i64 0) (fun _ => .inr rfl)).setCell S 1 (.int .i64 0) (fun _ => .inr rfl)).drew
        · have hn0 : (cd == 0) = false := by simpa using hc
          have hn1 : (cd != 0) = true := by simpa using hc
          rw [if_pos hc] at HDE
          clear hc
          go_upto_region 14 with (go_at_call 142; refine (HC2.out).mono ?_; rintro e u4 ⟨rfl, hb⟩; have hFK := (HSF.out u4 hb).1; have hSK := (HSF.out u4 hb).2; have f0 : u4.cell? ⟨F, 0, none⟩ = some (.int .i64 0) := hFK.cell 0; have f1 : u4.cell? ⟨F, 1, none⟩ = some (.int .i64 0) := hFK.cell 1; have ff0 := hFK.frozen 0; have t0 : u4.cell? ⟨S, 0, none⟩ = some (.int .i64 0) := hSK.cell 0; have t1 : u4.cell? ⟨S, 1, none⟩ = some (.int .i64 0) := hSK.cell 1; have tf0 := hSK.frozen 0; have tf1 := hSK.frozen 1; have H4 := WirS.hide hb; have HB4 := WirS.hide (HB3.out.trans (hb.mono HB3.out.size)); have HFK := WirS.hide hFK; have HSK := WirS.hide hSK; clear hb hFK hSK)
          go_wp2_with fail
          have hF5 := HFK.out.setCell 0 (.int .i64 cd)
          have hR5 := (Fr.refl (fun k => k = F) u4).setCell F 0 (.int .i64 cd) (fun _ => rfl)
          have hS5 := At.fr HSK.out hR5 hSF
          have hB5 := HBF.out _ HB4.out cd
          obtain ⟨W5, e5⟩ : ∃ Y, Y = u4.setCell ⟨F, 0, none⟩ (.int .i64 cd) := ⟨_, rfl⟩
          rw [← e5] at hF5 hR5 hS5 hB5
          rw [← e5]
          clear e5 f0 f1 ff0 t0 t1 tf0 tf1
          have f0 : W5.cell? ⟨F, 0, none⟩ = some (.int .i64 cd) := hF5.cell 0
          have f1 : W5.cell? ⟨F, 1, none⟩ = some (.int .i64 0) := hF5.cell 1
          have t0 : W5.cell? ⟨S, 0, none⟩ = some (.int .i64 0) := hS5.cell 0
          have t1 : W5.cell? ⟨S, 1, none⟩ = some (.int .i64 0) := hS5.cell 1
          have tf0 := hS5.frozen 0
          have tf1 := hS5.frozen 1
          have HR5 := WirS.hide hR5
          have HB5 := WirS.hide hB5
          clear hF5 hR5 hS5 hB5
          go_region_held3 (fun w' => w'.cell? ⟨F, 0, none⟩ = some (.int .i64 cd) ∧ w'.cell? ⟨F, 1, none⟩ = some (.int .i64 0)) (go_keep) (fail)
          go_wp2_with fail
          refine bodyPost_ret (v := .tuple #[.slice none 0 0, .agg #[.int .i64 cd, .int .i64 0]]) (by simp [results, Try.results49, go_sem, t0, t1]) rfl ?_
          exact ⟨none, 0, 0, by rw [HDE.out], by rw [HDE.out]; exact OwnV.nil _, (HSTT.out _ HB5.out cd 0).drew⟩
      · have hn0 : (fe == 0) = false := by simpa using h0
        have hn1 : (fe != 0) = true := by simpa using h0
        rw [if_pos h0] at HDE
        clear h0 hfz
        go_wp2_with fail
        go_region_held3 (fun w' => w'.cell? ⟨F, 0, none⟩ = some (.int .i64 fe) ∧ w'.cell? ⟨F, 1, none⟩ = some (.int .i64 fa)) (go_keep) (fail)
        go_wp2_with fail
        refine bodyPost_ret (v := .tuple #[.slice none 0 0, .agg #[.int .i64 fe, .int .i64 fa]]) (by simp [results, Try.results49, go_sem, t0, t1]) rfl ?_
        exact ⟨none, 0, 0, by rw [HDE.out], by rw [HDE.out]; exact OwnV.nil _, (HSTT.out W3 HB3.out fe fa).drew⟩
end ValSE
end Go.Proofs.Ytackcnncjeajpaa

namespace Go.Proofs.Ytackcnncjeajpaa
namespace ValSF
open Go.RowKit
open BlkM WirM WirS
open WirH (sa bin_sub slR)
open WirJ (st conv_any)
open ValBK (slB sSh)

def more4 : List Int := [201, 202, 203, 204]
/-- Bytes that are lent: four more lie behind them. -/
structure Lent (w : World) (g n c : Nat) (bs : List Int) : Prop where
  len : bs.length = n
  cap : n + 4 ≤ c
  lt : g < w.heap.size
  bin : BIn w (.slice (some ⟨g, 0, none⟩) (n + 4) c) (bs ++ more4)
theorem Lent.below {w w' : World} {g n c : Nat} {bs : List Int} (h : Lent w g n c bs) (hb : Below w.heap.size w w') : Lent w' g n c bs := ⟨h.len, h.cap, Nat.lt_of_lt_of_le h.lt hb.size, h.bin.below hb⟩
theorem Lent.fr {X : Nat → Prop} {w w' : World} {g n c : Nat} {bs : List Int} (h : Lent w g n c bs) (hf : Fr X w w') (hX : ¬ X g) : Lent w' g n c bs := ⟨h.len, h.cap, Nat.lt_of_lt_of_le h.lt hf.size, h.bin.fr hf (fun k hk => by simp [Value.ownBlock] at hk; subst hk; exact hX)⟩
theorem sa0 (g c : Nat) : sa (some ⟨g, 0, none⟩) c 0 = some ⟨g, 0, none⟩ := by
  unfold sa
  split
  · rfl
  · simp [Addr.add]
theorem Lent.head {w : World} {g n c : Nat} {bs : List Int} (h : Lent w g n c bs) : BIn w (.slice (some ⟨g, 0, none⟩) n c) bs := by
  have h1 := h.bin
  have h2 := h.len
  have h3 : (bs ++ more4).length = n + 4 := by rw [List.length_append, h2]; rfl
  have := bin_sub (at' := 0) (n := n) (by rw [h3]; exact h1) (by rw [h3]; omega)
  rw [sa0, List.drop_zero, List.take_left' h2] at this
  exact this
theorem Lent.tail {w : World} {g n c : Nat} {bs : List Int} (h : Lent w g n c bs) : BIn w (.slice (sa (some ⟨g, 0, none⟩) c n) 4 (c - n)) more4 := by
  have h1 := h.bin
  have h2 := h.len
  have h3 : (bs ++ more4).length = n + 4 := by rw [List.length_append, h2]; rfl
  have := bin_sub (at' := n) (n := 4) (by rw [h3]; exact h1) (by rw [h3]; omega)
  rw [List.drop_left' h2] at this
  exact this
theorem lent_any (w : World) (a : Option Addr) (n c : Nat) (bs : List Int) (h : BIn w (.slice a n c) bs) (hn : n ≤ 1000000) :
    Calls Try.prog 19 #[.slice a n c] w fun e w' => ∃ g c2, e = .returned (.slice (some ⟨g, 0, none⟩) n c2) ∧ Lent w' g n c2 bs ∧ w.heap.size ≤ g ∧ Below w.heap.size w w' := by
  have hnl : bs.length = n := by obtain ⟨_, _, e, _⟩ := h; cases e; rfl
  obtain ⟨i0, hi, hz0, hz1, hz2⟩ := info_parts (show (Try.prog.info? 5).map (fun i => (i.zero, i.size, i.bytes)) = some (some (.int .u8 0), 1, 1) by kernel_rfl)
  have hb : Below w.heap.size w (w.alloc (.cells #[] 5)) := Below.alloc (Below.refl _ _) (Nat.le_refl _) _
  have ownNew : WirM.Own (w.alloc (.cells #[] 5)) 5 (.slice (some ⟨w.heap.size, 0, none⟩) 0 0) [] := World.ownsRow_made w #[] 0 (Nat.zero_le _) (Nat.zero_le _) (by simp)
  obtain ⟨v1, u1, r1, o1, f1, n1⟩ := app_any (P := Try.prog) (w.alloc (.cells #[] 5)) 32 32 32 5 i0 _ Try.underlying32 hi hz0 hz1 hz2 rfl (.slice (some ⟨w.heap.size, 0, none⟩) 0 0) (.slice a n c) [] bs ownNew ((h.below hb).src Try.underlying32) (by simp; omega)
  rw [List.nil_append] at o1
  have hB1 := hb.trans (f1.below (B := w.heap.size) (by simp) (fun k hk hx => by simp [Value.ownBlock] at hx; omega))
  have hN1 : ∀ k, v1.ownBlock = some k → w.heap.size ≤ k := fun k hk => by
    rcases n1 k hk with hx | hx
    · simp [Value.ownBlock] at hx
      omega
    · simp at hx
      omega
  have hal : Below u1.heap.size u1 (u1.alloc (.cells #[.int .u8 201, .int .u8 202, .int .u8 203, .int .u8 204] 5)) := Below.alloc (Below.refl _ _) (Nat.le_refl _) _
  obtain ⟨v2, u2, r2, o2, f2, n2⟩ := app_any (P := Try.prog) (u1.alloc (.cells #[.int .u8 201, .int .u8 202, .int .u8 203, .int .u8 204] 5)) 32 32 32 5 i0 _ Try.underlying32 hi hz0 hz1 hz2 rfl v1 (.slice (some ⟨u1.heap.size, 0, none⟩) 4 4) bs more4 (o1.fr (X := fun _ => False) (Fr.of_below hal) (fun _ _ h => h)) ((BIn.new u1 5 more4 4 4 (0, 0) (by decide) (by decide)).src Try.underlying32) (by rw [hnl]; simp [more4]; omega)
  have hB2 : Below w.heap.size w u2 := (hB1.trans (hal.mono hB1.size)).trans (f2.below (by have := hB1.size; simp; omega) (fun k hk hx => by have := hN1 k hx; omega))
  have hl4 : (bs ++ more4).length = n + 4 := by rw [List.length_append, hnl]; rfl
  obtain ⟨g, c2, rfl⟩ : ∃ g c2, v2 = .slice (some ⟨g, 0, none⟩) (n + 4) c2 := by
    obtain ⟨_, ⟨e, h0⟩ | ⟨g, cap, cur, e, _⟩⟩ := o2
    · rw [hl4] at h0
      omega
    · exact ⟨g, cap, by rw [e, hl4]⟩
  have hg : w.heap.size ≤ g := by
    rcases n2 g rfl with hx | hx
    · exact hN1 g hx
    · have := hB1.size
      simp at hx
      omega
  have hbin := o2.bin
  have hcap : n + 4 ≤ c2 := by obtain ⟨_, _, e, hc, _⟩ := id hbin; simp only [Value.slice.injEq] at e; obtain ⟨_, h2, h3⟩ := e; omega
  have HLent := WirS.hide (show Lent u2 g n c2 bs from ⟨hnl, hcap, o2.lt g rfl, hbin⟩)
  have HG := WirS.hide hg
  have HB := WirS.hide hB2
  obtain ⟨va, vn, vc, rfl⟩ : ∃ va vn vc, v1 = .slice va vn vc := by obtain ⟨va, vc, e, _⟩ := o1.bin; exact ⟨va, _, vc, e⟩
  have hsl := slB (some ⟨g, 0, none⟩) (n + 4) c2 n (by omega)
  rw [sa0, Nat.sub_zero] at hsl
  clear hb f1 n1 o1 h hi hz0 hz1 hz2 hnl ownNew hB1 hN1 hal o2 f2 n2 hB2 hl4 hg hbin hcap
  go_enter Try.func19, Try.ntmps19
  go_upto_region 1 with fail
  refine wp_region_lit ?_
  refine sV (.slice (some ⟨w.heap.size, 0, none⟩) 0 0) (w.alloc (.cells #[] 5)) (by kernel_rfl) (by kernel_rfl) ?_
  simp only [Act.put, List.setIfInBounds_toArray, List.set_cons_succ, List.set_cons_zero]
  refine sV (.slice a n c) (w.alloc (.cells #[] 5)) (by kernel_rfl) (by kernel_rfl) ?_
  simp only [Act.put, List.setIfInBounds_toArray, List.set_cons_succ, List.set_cons_zero]
  refine sA (by kernel_rfl) 32 32 _ _ (by rfl) (.slice (some ⟨w.heap.size, 0, none⟩) 0 0) (.slice a n c) (by kernel_rfl) (by kernel_rfl) (.slice va vn vc) (u1) r1 ?_
  simp only [Act.put, List.setIfInBounds_toArray, List.set_cons_succ, List.set_cons_zero]
  refine sV (.slice (some ⟨u1.heap.size, 0, none⟩) 4 4) (u1.alloc (.cells #[.int .u8 201, .int .u8 202, .int .u8 203, .int .u8 204] 5)) (by kernel_rfl) (by kernel_rfl) ?_
  simp only [Act.put, List.setIfInBounds_toArray, List.set_cons_succ, List.set_cons_zero]
  refine sA (by kernel_rfl) 32 32 _ _ (by rfl) (.slice va vn vc) (.slice (some ⟨u1.heap.size, 0, none⟩) 4 4) (by kernel_rfl) (by kernel_rfl) (.slice (some ⟨g, 0, none⟩) (n + 4) c2) (u2) r2 ?_
  simp only [Act.put, List.setIfInBounds_toArray, List.set_cons_succ, List.set_cons_zero]
  clear r1 r2
  go_wp2_with fail
  go_ret
  exact ⟨g, c2, rfl, HLent.out, HG.out, HB.out⟩
set_option maxRecDepth 10000 in
set_option maxHeartbeats 4000000 in
theorem kept_any (w : World) (g n c : Nat) (bs : List Int) (b : Option Addr) (d : Nat) (h : Lent w g n c bs) (hb : BIn w (.slice b n d) bs) (hn : n ≤ 1000000) :
    Calls Try.prog 22 #[.slice (some ⟨g, 0, none⟩) n c, .slice b n d] w fun e w' => e = .returned (.bool true) ∧ Below w.heap.size w w' := by
  have hcap := h.cap
  have hsl := slB (some ⟨g, 0, none⟩) n c c (Nat.le_refl _)
  rw [sa0, Nat.sub_zero] at hsl
  have hsl2 : ∀ Y, (Instr.sliceAt 32 (.slice (some ⟨g, 0, none⟩) c c) (some (.int .i64 (n : Int))) (some (.int .i64 ((n : Int) + 4))) none).run Try.prog Y = .ok (.slice (sa (some ⟨g, 0, none⟩) c n) 4 (c - n)) Y := fun Y => by
    have := slR (some ⟨g, 0, none⟩) c c n (n + 4) 4 rfl hcap (Nat.le_refl _) Y
    rwa [Int.natCast_add] at this
  have HS := WirS.hide (fun (U : World) (hU : Below w.heap.size w U) => (show (convert 32 9 (.slice (some ⟨g, 0, none⟩) n c)).run Try.prog U = .ok (.string (st bs)) U ∧ (convert 32 9 (.slice b n d)).run Try.prog U = .ok (.string (st bs)) U ∧ (convert 32 9 (.slice (sa (some ⟨g, 0, none⟩) c n) 4 (c - n))).run Try.prog U = .ok (.string (st more4)) U from ⟨conv_any U _ _ _ _ (h.head.below hU), conv_any U _ _ _ _ (hb.below hU), conv_any U _ _ _ _ (h.tail.below hU)⟩))
  have hnew : (convert 32 9 (.slice (some ⟨w.heap.size, 0, none⟩) 4 4)).run Try.prog ((w.alloc (.cells #[.int .u8 201, .int .u8 202, .int .u8 203, .int .u8 204] 5)).drew) = .ok (.string (st more4)) ((w.alloc (.cells #[.int .u8 201, .int .u8 202, .int .u8 203, .int .u8 204] 5)).drew) := conv_any _ _ 4 4 more4 ((BIn.new w 5 more4 4 4 (0, 0) (by decide) (by decide)).below (below_drewN (Below.refl _ _) 1))
  have hnew2 : (convert 32 9 (.slice (some ⟨w.heap.size, 0, none⟩) 4 4)).run Try.prog (w.alloc (.cells #[.int .u8 201, .int .u8 202, .int .u8 203, .int .u8 204] 5)) = .ok (.string (st more4)) (w.alloc (.cells #[.int .u8 201, .int .u8 202, .int .u8 203, .int .u8 204] 5)) := conv_any _ _ 4 4 more4 (BIn.new w 5 more4 4 4 (0, 0) (by decide) (by decide))
  have hnew3 : (convert 32 9 (.slice (some ⟨w.heap.size, 0, none⟩) 4 4)).run Try.prog (w.drew.alloc (.cells #[.int .u8 201, .int .u8 202, .int .u8 203, .int .u8 204] 5)) = .ok (.string (st more4)) (w.drew.alloc (.cells #[.int .u8 201, .int .u8 202, .int .u8 203, .int .u8 204] 5)) := conv_any _ _ 4 4 more4 (BIn.new w.drew 5 more4 4 4 (0, 0) (by decide) (by decide))
  obtain ⟨c1, c2, c3⟩ := HS.out w (Below.refl _ _)
  generalize st bs = s1 at *
  generalize st more4 = s4 at *
  generalize sa (some ⟨g, 0, none⟩) c n = sx at *
  have g1 : (n : Int) + 4 ≤ (c : Int) := by omega
  have g2 : decide ((n : Int) + 4 ≤ (c : Int)) = true := by simpa using g1
  have g3 : decide ((c : Int) < (n : Int) + 4) = false := by simp; omega
  have g4 : decide ((c : Int) ≥ (n : Int) + 4) = true := by simpa using g1
  have g5 : (s1.toList == s1.toList) = true := by simp
  have g6 : ((n : Int) == (n : Int)) = true := by simp
  have g7 : (s4.toList == s4.toList) = true := by simp
  have g8 : IntKind.i64.wrap ((n : Int) + 4) = (n : Int) + 4 := IntWalk.i64_in _ (by omega)
  clear h hb hcap
  go_enter Try.func22, Try.ntmps22
  go_upto_region 2 with fail
  refine wp_region_noPanic ?_
  refine wp_region_held_drew (S := fun w' => (convert 32 9 (.slice (some ⟨g, 0, none⟩) n c)).run Try.prog w' = .ok (.string s1) w' ∧ (convert 32 9 (.slice b n d)).run Try.prog w' = .ok (.string s1) w' ∧ (convert 32 9 (.slice sx 4 (c - n))).run Try.prog w' = .ok (.string s4) w') (by kernel_rfl) ?_ (fun hHeld => ?_)
  · (refine HS.out _ ?_; first | exact below_drewN (Below.refl _ _) 1 | exact below_drewN (Below.alloc (Below.refl _ _) (Nat.le_refl _) _) 1 | exact Below.alloc (Below.refl _ _) (Nat.le_refl _) _ | exact Below.alloc (below_drewN (Below.refl _ _) 1) (by simp) _)
  refine' wpAnyH_take (i := 0) (oi := _) (v := _) rfl (by kernel_rfl) (by kernel_rfl) (by kernel_rfl) (fun _ _ _ h => h) (Or.inl ⟨by kernel_rfl, ?hy⟩) (by assumption) ?rest2
  case hy =>
    intro w hSw
    try dsimp only at hSw
    go_simp
    try with_reducible rfl
  case rest2 =>
  try simp only [Act.put, List.setIfInBounds_toArray]
  refine' wpAnyH_take (i := 1) (oi := _) (v := _) rfl (by kernel_rfl) (by kernel_rfl) (by kernel_rfl) (fun _ _ _ h => h) (Or.inl ⟨by kernel_rfl, ?hy⟩) (by assumption) ?rest2
  case hy =>
    intro w hSw
    try dsimp only at hSw
    go_simp
    try with_reducible rfl
  case rest2 =>
  try simp only [Act.put]
  refine' wpAnyH_take (i := 2) (oi := _) (v := _) rfl (by kernel_rfl) (by kernel_rfl) (by kernel_rfl) (fun _ _ _ h => h) (Or.inl ⟨by kernel_rfl, ?hy⟩) (by assumption) ?rest2
  case hy =>
    intro w hSw
    try dsimp only at hSw
    go_simp
    try with_reducible rfl
  case rest2 =>
  try simp only [Act.put]
  refine' wpAnyH_take (i := 3) (oi := _) (v := _) rfl (by kernel_rfl) (by kernel_rfl) (by kernel_rfl) (fun _ _ _ h => h) (Or.inl ⟨by kernel_rfl, ?hy⟩) (by assumption) ?rest2
  case hy =>
    intro w hSw
    try dsimp only at hSw
    go_simp
    try with_reducible rfl
  case rest2 =>
  try simp only [Act.put]
  refine' wpAnyH_take (i := 4) (oi := _) (v := _) rfl (by kernel_rfl) (by kernel_rfl) (by kernel_rfl) (fun _ _ _ h => h) (Or.inl ⟨by kernel_rfl, ?hy⟩) (by assumption) ?rest2
  case hy =>
    intro w hSw
    try dsimp only at hSw
    go_simp
    try with_reducible rfl
  case rest2 =>
  try simp only [Act.put]
  refine' wpAnyH_take (i := 5) (oi := _) (v := _) rfl (by kernel_rfl) (by kernel_rfl) (by kernel_rfl) (fun _ _ _ h => h) (Or.inl ⟨by kernel_rfl, ?hy⟩) (by assumption) ?rest2
  case hy =>
    intro w hSw
    try dsimp only at hSw
    go_simp
    try with_reducible rfl
  case rest2 =>
  try simp only [Act.put]
  refine' wpAnyH_take (i := 6) (oi := _) (v := _) rfl (by kernel_rfl) (by kernel_rfl) (by kernel_rfl) (fun _ _ _ h => h) (Or.inl ⟨by kernel_rfl, ?hy⟩) (by assumption) ?rest2
  case hy =>
    intro w hSw
    try dsimp only at hSw
    go_simp
    try with_reducible rfl
  case rest2 =>
  try simp only [Act.put]
  refine' wpAnyH_take (i := 7) (oi := _) (v := _) rfl (by kernel_rfl) (by kernel_rfl) (by kernel_rfl) (fun _ _ _ h => h) (Or.inl ⟨by kernel_rfl, ?hy⟩) (by assumption) ?rest2
  case hy =>
    intro w hSw
    try dsimp only at hSw
    go_simp
    try with_reducible rfl
  case rest2 =>
  try simp only [Act.put]
  refine' wpAnyH_take (i := 8) (oi := _) (v := _) rfl (by kernel_rfl) (by kernel_rfl) (by kernel_rfl) (fun _ _ _ h => h) (Or.inl ⟨by kernel_rfl, ?hy⟩) (by assumption) ?rest2
  case hy =>
    intro w hSw
    try dsimp only at hSw
    go_simp
    try with_reducible rfl
  case rest2 =>
  try simp only [Act.put]
  refine' wpAnyH_take (i := 9) (oi := _) (v := _) rfl (by kernel_rfl) (by kernel_rfl) (by kernel_rfl) (fun _ _ _ h => h) (Or.inl ⟨by kernel_rfl, ?hy⟩) (by assumption) ?rest2
  case hy =>
    intro w hSw
    try dsimp only at hSw
    go_simp
    try with_reducible rfl
  case rest2 =>
  try simp only [Act.put]
  refine' wpAnyH_take (i := 10) (oi := _) (v := _) rfl (by kernel_rfl) (by kernel_rfl) (by kernel_rfl) (fun _ _ _ h => h) (Or.inl ⟨by kernel_rfl, ?hy⟩) (by assumption) ?rest2
  case hy =>
    intro w hSw
    try dsimp only at hSw
    go_simp
    try with_reducible rfl
  case rest2 =>
  try simp only [Act.put]
  refine' wpAnyH_take (i := 11) (oi := _) (v := _) rfl (by kernel_rfl) (by kernel_rfl) (by kernel_rfl) (fun _ _ _ h => h) (Or.inl ⟨by kernel_rfl, ?hy⟩) (by assumption) ?rest2
  case hy =>
    intro w hSw
    try dsimp only at hSw
    go_simp
    try with_reducible rfl
  case rest2 =>
  try simp only [Act.put]
  refine' wpAnyH_take (i := 12) (oi := _) (v := _) rfl (by kernel_rfl) (by kernel_rfl) (by kernel_rfl) (fun _ _ _ h => h) (Or.inl ⟨by kernel_rfl, ?hy⟩) (by assumption) ?rest2
  case hy =>
    intro w hSw
    try dsimp only at hSw
    go_simp
    try with_reducible rfl
  case rest2 =>
  try simp only [Act.put]
  refine' wpAnyH_take (i := 13) (oi := _) (v := _) rfl (by kernel_rfl) (by kernel_rfl) (by kernel_rfl) (fun _ _ _ h => h) (Or.inl ⟨by kernel_rfl, ?hy⟩) (by assumption) ?rest2
  case hy =>
    intro w hSw
    try dsimp only at hSw
    go_simp
    try with_reducible rfl
  case rest2 =>
  try simp only [Act.put]
  refine' wpAnyH_take (i := 14) (oi := _) (v := _) rfl (by kernel_rfl) (by kernel_rfl) (by kernel_rfl) (fun _ _ _ h => h) (Or.inl ⟨by kernel_rfl, ?hy⟩) (by assumption) ?rest2
  case hy =>
    intro w hSw
    try dsimp only at hSw
    go_simp
    try with_reducible rfl
  case rest2 =>
  try simp only [Act.put]
  refine' wpAnyH_take (i := 15) (oi := _) (v := _) rfl (by kernel_rfl) (by kernel_rfl) (by kernel_rfl) (fun _ _ _ h => h) (Or.inl ⟨by kernel_rfl, ?hy⟩) (by assumption) ?rest2
  case hy =>
    intro w hSw
    try dsimp only at hSw
    go_simp
    try with_reducible rfl
  case rest2 =>
  try simp only [Act.put]
  refine' wpAnyH_take (i := 16) (oi := _) (v := _) rfl (by kernel_rfl) (by kernel_rfl) (by kernel_rfl) (fun _ _ _ h => h) (Or.inl ⟨by kernel_rfl, ?hy⟩) (by assumption) ?rest2
  case hy =>
    intro w hSw
    try dsimp only at hSw
    go_simp
    try with_reducible rfl
  case rest2 =>
  try simp only [Act.put]
  refine' wpAnyH_take (i := 17) (oi := _) (v := _) rfl (by kernel_rfl) (by kernel_rfl) (by kernel_rfl) (fun _ _ _ h => h) (Or.inl ⟨by kernel_rfl, ?hy⟩) (by assumption) ?rest2
  case hy =>
    intro w hSw
    try dsimp only at hSw
    go_simp
    try with_reducible rfl
  case rest2 =>
  try simp only [Act.put]
  refine' wpAnyH_take (i := 18) (oi := _) (v := _) rfl (by kernel_rfl) (by kernel_rfl) (by kernel_rfl) (fun _ _ _ h => h) (Or.inl ⟨by kernel_rfl, ?hy⟩) (by assumption) ?rest2
  case hy =>
    intro w hSw
    try dsimp only at hSw
    go_simp
    try with_reducible rfl
  case rest2 =>
  try simp only [Act.put]
  refine' wpAnyH_take (i := 19) (oi := _) (v := _) rfl (by kernel_rfl) (by kernel_rfl) (by kernel_rfl) (fun _ _ _ h => h) (Or.inl ⟨by kernel_rfl, ?hy⟩) (by assumption) ?rest2
  case hy =>
    intro w hSw
    try dsimp only at hSw
    go_simp
    try with_reducible rfl
  case rest2 =>
  try simp only [Act.put]
  refine' wpAnyH_take (i := 20) (oi := _) (v := _) rfl (by kernel_rfl) (by kernel_rfl) (by kernel_rfl) (fun _ _ _ h => h) (Or.inl ⟨by kernel_rfl, ?hy⟩) (by assumption) ?rest2
  case hy =>
    intro w hSw
    try dsimp only at hSw
    go_simp
    try with_reducible rfl
  case rest2 =>
  try simp only [Act.put]
  refine' wpAnyH_take (i := 21) (oi := _) (v := _) rfl (by kernel_rfl) (by kernel_rfl) (by kernel_rfl) (fun _ _ _ h => h) (Or.inl ⟨by kernel_rfl, ?hy⟩) (by assumption) ?rest2
  case hy =>
    intro w hSw
    try dsimp only at hSw
    go_simp
    try with_reducible rfl
  case rest2 =>
  try simp only [Act.put]
  refine' wpAnyH_take (i := 22) (oi := _) (v := _) rfl (by kernel_rfl) (by kernel_rfl) (by kernel_rfl) (fun _ _ _ h => h) (Or.inl ⟨by kernel_rfl, ?hy⟩) (by assumption) ?rest2
  case hy =>
    intro w hSw
    try dsimp only at hSw
    go_simp
    try with_reducible rfl
  case rest2 =>
  try simp only [Act.put]
  refine' wpAnyH_take (i := 23) (oi := _) (v := _) rfl (by kernel_rfl) (by kernel_rfl) (by kernel_rfl) (fun _ _ _ h => h) (Or.inl ⟨by kernel_rfl, ?hy⟩) (by assumption) ?rest2
  case hy =>
    intro w hSw
    try dsimp only at hSw
    go_simp
    try with_reducible rfl
  case rest2 =>
  try simp only [Act.put]
  refine' wpAnyH_take (i := 24) (oi := _) (v := _) rfl (by kernel_rfl) (by kernel_rfl) (by kernel_rfl) (fun _ _ _ h => h) (Or.inl ⟨by kernel_rfl, ?hy⟩) (by assumption) ?rest2
  case hy =>
    intro w hSw
    try dsimp only at hSw
    go_simp
    try with_reducible rfl
  case rest2 =>
  try simp only [Act.put]
  refine' wpAnyH_take (i := 25) (oi := _) (v := _) rfl (by kernel_rfl) (by kernel_rfl) (by kernel_rfl) (fun _ _ _ h => h) (Or.inl ⟨by kernel_rfl, ?hy⟩) (by assumption) ?rest2
  case hy =>
    intro w hSw
    try dsimp only at hSw
    go_simp
    try with_reducible rfl
  case rest2 =>
  try simp only [Act.put]
  refine' wpAnyH_take (i := 26) (oi := _) (v := _) rfl (by kernel_rfl) (by kernel_rfl) (by kernel_rfl) (fun _ _ _ h => h) (Or.inl ⟨by kernel_rfl, ?hy⟩) (by assumption) ?rest2
  case hy =>
    intro w hSw
    try dsimp only at hSw
    go_simp
    try with_reducible rfl
  case rest2 =>
  try simp only [Act.put]
  refine' wpAnyH_take (i := 27) (oi := _) (v := _) rfl (by kernel_rfl) (by kernel_rfl) (by kernel_rfl) (fun _ _ _ h => h) (Or.inl ⟨by kernel_rfl, ?hy⟩) (by assumption) ?rest2
  case hy =>
    intro w hSw
    try dsimp only at hSw
    go_simp
    try with_reducible rfl
  case rest2 =>
  try simp only [Act.put]
  refine' wpAnyH_take (i := 28) (oi := _) (v := _) rfl (by kernel_rfl) (by kernel_rfl) (by kernel_rfl) (fun _ _ _ h => h) (Or.inl ⟨by kernel_rfl, ?hy⟩) (by assumption) ?rest2
  case hy =>
    intro w hSw
    try dsimp only at hSw
    go_simp
    try with_reducible rfl
  case rest2 =>
  try simp only [Act.put]
  refine wpAnyH_ready (rs := [29]) (by kernel_rfl) (by simp) ?_
  refine AllReadyH.cons rfl (fun K hK => ?_) AllReadyH.nil
  go_simp
  refine hK.out _ _ ?_ (fun hHeld => ?_)
  · (refine HS.out _ ?_; first | exact below_drewN (Below.refl _ _) 1 | exact below_drewN (Below.alloc (Below.refl _ _) (Nat.le_refl _) _) 1 | exact Below.alloc (Below.refl _ _) (Nat.le_refl _) _ | exact Below.alloc (below_drewN (Below.refl _ _) 1) (by simp) _)
  clear hK K
  try simp only [Act.put, List.setIfInBounds_toArray, List.set_cons_zero, List.set_cons_succ]
  refine wpAnyH_ready (rs := [30]) (by kernel_rfl) (by simp) ?_
  refine AllReadyH.cons rfl (fun K hK => ?_) AllReadyH.nil
  go_simp
  refine hK.out _ _ ?_ (fun hHeld => ?_)
  · (refine HS.out _ ?_; first | exact below_drewN (Below.refl _ _) 1 | exact below_drewN (Below.alloc (Below.refl _ _) (Nat.le_refl _) _) 1 | exact Below.alloc (Below.refl _ _) (Nat.le_refl _) _ | exact Below.alloc (below_drewN (Below.refl _ _) 1) (by simp) _)
  clear hK K
  try simp only [Act.put, List.setIfInBounds_toArray, List.set_cons_zero, List.set_cons_succ]
  refine' wpAnyH_take (i := 31) (oi := _) (v := _) rfl (by kernel_rfl) (by kernel_rfl) (by kernel_rfl) (fun _ _ _ h => h) (Or.inl ⟨by kernel_rfl, ?hy⟩) (by assumption) ?rest2
  case hy =>
    intro w hSw
    try dsimp only at hSw
    go_simp
    try with_reducible rfl
  case rest2 =>
  try simp only [List.getElem_toArray, List.getElem_cons_succ, List.getElem_cons_zero, Act.put, List.setIfInBounds_toArray, List.set_cons_zero, List.set_cons_succ]
  refine' wpAnyH_take (i := 32) (oi := _) (v := _) rfl (by kernel_rfl) (by kernel_rfl) (by kernel_rfl) (fun _ _ _ h => h) (Or.inl ⟨by kernel_rfl, ?hy⟩) (by assumption) ?rest2
  case hy =>
    intro w hSw
    try dsimp only at hSw
    go_simp
    try with_reducible rfl
  case rest2 =>
  try simp only [List.getElem_toArray, List.getElem_cons_succ, List.getElem_cons_zero, Act.put, List.setIfInBounds_toArray, List.set_cons_zero, List.set_cons_succ]
  refine' wpAnyH_take (i := 33) (oi := _) (v := _) rfl (by kernel_rfl) (by kernel_rfl) (by kernel_rfl) (fun _ _ _ h => h) (Or.inl ⟨by kernel_rfl, ?hy⟩) (by assumption) ?rest2
  case hy =>
    intro w hSw
    try dsimp only at hSw
    go_simp
    try with_reducible rfl
  case rest2 =>
  try simp only [List.getElem_toArray, List.getElem_cons_succ, List.getElem_cons_zero, Act.put, List.setIfInBounds_toArray, List.set_cons_zero, List.set_cons_succ]
  refine wpAnyH_done (by kernel_rfl) ?_ _
  refine NoPanic.normal ?_
  go_wp2_with fail
  go_ret
  exact ⟨rfl, (Below.alloc (Below.refl w.heap.size w) (Nat.le_refl _) _).drew⟩
end ValSF
end Go.Proofs.Ytackcnncjeajpaa

namespace Go.Proofs.Ytackcnncjeajpaa
namespace ValDD
open Go.RowKit
open BlkM WirM WirS ValA ValE ValK ValL ValQ ValS ValRE ValSE ValSF
open WirRT (rng)

theorem k_own (U : World) (b : Option Addr) (n c : Nat) (bs : List Int) (fe fa : Int) (vs : List Vd) (m : Nat) (hb : BIn U (.slice b n c) bs) (hr : rng bs) (hn : n ≤ 1099511627776) (hd : dec bs = ((fe, fa), vs)) (hm : vs.length = m) :
    Calls Try.prog 48 #[.slice b n c] U fun e w' => ∃ la lc, e = .returned (.tuple #[.slice la m lc, .agg #[.int .i64 fe, .int .i64 fa]]) ∧ OwnV w' (.slice la m lc) vs ∧ (∀ k, (Value.slice la m lc).ownBlock = some k → U.heap.size ≤ k) ∧ Below U.heap.size U w' := by
  refine (decode_any U b n c bs hb hr hn).mono ?_
  rintro e w' ⟨la, ln, lc, rfl, ho, hk, hb⟩
  rw [hd] at ho ⊢
  have hl := ho.vin.len
  rw [hm] at hl
  subst hl
  exact ⟨_, _, rfl, ho, hk, hb⟩
theorem k_ref (U : World) (b : Option Addr) (n c : Nat) (bs : List Int) (fe fa : Int) (vs : List Vd) (m : Nat) (hb : BIn U (.slice b n c) bs) (hr : rng bs) (hn : n ≤ 1099511627776) (hd : dec bs = ((fe, fa), vs)) (hm : vs.length = m) :
    Calls Try.prog 49 #[.slice b n c] U fun e w' => ∃ la lc, e = .returned (.tuple #[.slice la m lc, .agg #[.int .i64 fe, .int .i64 fa]]) ∧ VIn w' la m lc vs ∧ Below U.heap.size U w' := by
  refine (rdecode_any U b n c bs hb hr hn).mono ?_
  rintro e w' ⟨la, ln, lc, rfl, ho, hb⟩
  rw [hd] at ho ⊢
  have hv := ho.vin
  have hl := hv.len
  rw [hm] at hl
  subst hl
  exact ⟨_, _, rfl, hv, hb⟩
theorem dec_len (bs : List Int) : (dec bs).2.length ≤ 64 := by
  unfold dec
  split
  · simp
  · rename_i h1
    split
    · simp
    · split
      · simp
      · simp only [itS_len]
        omega
theorem bin_keep {X : Nat → Prop} {w U U' : World} {a : Option Addr} {n c : Nat} {bs : List Int} (h : BIn w (.slice a n c) bs) (hU : BIn U (.slice a n c) bs) (hf : Fr X U U') (hX : ∀ k, X k → w.heap.size ≤ k) : BIn U' (.slice a n c) bs := by
  obtain ⟨a', c', e, hc, hz⟩ := h
  cases e
  obtain ⟨a2, c2, e2, hc2, hz2⟩ := hU
  cases e2
  refine ⟨_, _, rfl, hc, fun hne => ?_⟩
  obtain ⟨B, o, e, hB, _⟩ := hz hne
  subst e
  obtain ⟨B2, o2, e2, hB2, hcell⟩ := hz2 hne
  cases e2
  have hx : ¬ X B := fun hx => by have := hX B hx; omega
  exact ⟨B, o, rfl, Nat.lt_of_lt_of_le hB2 hf.size, fun i hi => (hf.cell (p := ⟨B, _, none⟩) hB2 hx).trans (hcell i hi)⟩
set_option maxRecDepth 10000 in
set_option maxHeartbeats 20000000 in
theorem decodes_row (w : World) (b : Option Addr) (n c : Nat) (bs : List Int) (h : BIn w (.slice b n c) bs ∧ rng bs) :
    Calls Try.prog 9 #[.slice b n c] w fun e w' => e = .returned (.bool true) ∧ Below w.heap.size w w' := by
  obtain ⟨hb, hr⟩ := h
  by_cases hn : 1500 < n
  · have g1 : (1500 : Int) < (n : Int) := by omega
    clear hb hr
    go_enter Try.func9, Try.ntmps9
    go_wp2_with (go_at_call 47; refine (awake_any _).mono ?_; rintro e u ⟨rfl, hb⟩; have HB := WirS.hide hb; clear hb)
    go_ret
    exact ⟨rfl, HB.out⟩
  have g1 : ¬ (1500 : Int) < (n : Int) := by omega
  obtain ⟨fe, fa, vs, hd⟩ : ∃ fe fa vs, dec bs = ((fe, fa), vs) := ⟨_, _, _, rfl⟩
  obtain ⟨m, hm⟩ : ∃ m, vs.length = m := ⟨_, rfl⟩
  have hm64 : m ≤ 64 := by have := dec_len bs; rw [hd] at this; rw [← hm]; exact this
  have he := fun U => WirX.fault_eq fe fa fe fa U
  simp only [beq_self_eq_true, Bool.and_self] at he
  have HB := WirS.hide hb
  have HR := WirS.hide hr
  have HD := WirS.hide hd
  have HM := WirS.hide hm
  have HHY := WirS.hide (And.intro hn hm64)
  clear hb hr hd hm hn hm64
  go_enter Try.func9, Try.ntmps9
  go_upto_region 4 with (go_at_call 19; refine (lent_any _ b n c bs HB.out (by have := HHY.out; omega)).mono ?_; rintro e u1 ⟨g, c2, rfl, hl, hg, hb⟩; have HL1 := WirS.hide hl; have H1 := WirS.hide hb; clear hl hg hb)
  go_upto_region 5 with (go_at_call 48; refine (k_own _ _ n c2 bs fe fa vs m HL1.out.head HR.out (by have := HHY.out; omega) HD.out HM.out).mono ?_; rintro e u2 ⟨la, lc, rfl, ho, hk, hb⟩; have HO2 := WirS.hide ho; have HK := WirS.hide hk; have HL2 := WirS.hide (HL1.out.below hb); have H2 := WirS.hide (H1.out.trans (hb.mono H1.out.size)); have H12 := WirS.hide hb; clear ho hk hb)
  obtain ⟨u3, e3⟩ : ∃ Y, Y = u2.alloc (.cells #[.int .i64 fe, .int .i64 fa] 55) := ⟨_, rfl⟩
  have hF := At.new u2 55 [.int .i64 fe, .int .i64 fa]
  rw [show u2.alloc (.cells [Value.int .i64 fe, .int .i64 fa].toArray 55) = u3 from e3.symm] at hF
  have h23 : Below u2.heap.size u2 u3 := by rw [e3]; exact Below.alloc (Below.refl _ _) (Nat.le_refl _) _
  have HO3 := WirS.hide (HO2.out.below h23)
  have HL3 := WirS.hide (HL2.out.below h23)
  have H3 := WirS.hide (H2.out.trans (h23.mono H2.out.size))
  have H13 := WirS.hide (H12.out.trans (h23.mono H12.out.size))
  have HF := WirS.hide hF
  rw [← e3]
  clear e3 h23 hF HO2 HL2 H12
  generalize u2.heap.size = F1 at *
  go_upto_region 6 with (go_at_call 49; refine (k_ref _ b n c bs fe fa vs m (HB.out.below H3.out) HR.out (by have := HHY.out; omega) HD.out HM.out).mono ?_; rintro e u4 ⟨xa, xc, rfl, hv, hb⟩; have HX4 := WirS.hide hv; have HO4 := WirS.hide (HO3.out.below hb); have HL4 := WirS.hide (HL3.out.below hb); have HF4 := WirS.hide (at_new HF.out hb); have H4 := WirS.hide (H3.out.trans (hb.mono H3.out.size)); have H14 := WirS.hide (H13.out.trans (hb.mono H13.out.size)); clear hv hb)
  obtain ⟨u5, e5⟩ : ∃ Y, Y = u4.alloc (.cells #[.int .i64 fe, .int .i64 fa] 55) := ⟨_, rfl⟩
  have hF := At.new u4 55 [.int .i64 fe, .int .i64 fa]
  rw [show u4.alloc (.cells [Value.int .i64 fe, .int .i64 fa].toArray 55) = u5 from e5.symm] at hF
  have h45 : Below u4.heap.size u4 u5 := by rw [e5]; exact Below.alloc (Below.refl _ _) (Nat.le_refl _) _
  have HO5 := WirS.hide (HO4.out.below h45)
  have HX5 := WirS.hide (HX4.out.below h45)
  have HL5 := WirS.hide (HL4.out.below h45)
  have HF5 := WirS.hide (at_new HF4.out h45)
  have H5 := WirS.hide (H4.out.trans (h45.mono H4.out.size))
  have H15 := WirS.hide (H14.out.trans (h45.mono H14.out.size))
  have HG5 := WirS.hide hF
  rw [← e5]
  clear e5 h45 hF HO3 HO4 HX4 HL3 HL4 HF HF4 H13 H14
  generalize u4.heap.size = F2 at *
  have HSV := WirS.hide (same_any u5 la xa m lc xc vs HO5.out.vin HX5.out)
  go_upto_region 7 with (go_at_call 50; refine (HSV.out).mono ?_; rintro e u6 ⟨rfl, hb⟩; have hfa := at_new HF5.out hb; have hga := at_new HG5.out hb; have k0 : u6.cell? ⟨F1, 0, none⟩ = some (.int .i64 fe) := hfa.cell 0; have k1 : u6.cell? ⟨F1, 1, none⟩ = some (.int .i64 fa) := hfa.cell 1; have l0 : u6.cell? ⟨F2, 0, none⟩ = some (.int .i64 fe) := hga.cell 0; have l1 : u6.cell? ⟨F2, 1, none⟩ = some (.int .i64 fa) := hga.cell 1; have HO6 := WirS.hide (HO5.out.below hb); have HL6 := WirS.hide (HL5.out.below hb); have H6 := WirS.hide (H5.out.trans (hb.mono H5.out.size)); have H16 := WirS.hide (H15.out.trans (hb.mono H15.out.size)); clear hb hfa hga)
  clear k0 k1 l0 l1 he
  go_upto_region 8 with (go_at_call 51; refine (overv_any _ la m lc vs HO6.out (by have := HHY.out; omega)).mono ?_; rintro e u7 ⟨rfl, hf⟩; have HF7 := WirS.hide hf; clear hf)
  have hL7 : Lent u7 g n c2 bs := HL6.out.fr HF7.out (fun hx => by
    have h1 := HK.out g hx
    have h2 := HL1.out.lt
    omega)
  have hB7 : BIn u7 (.slice b n c) bs := bin_keep HB.out (HB.out.below H6.out) HF7.out (fun k hx => Nat.le_trans H1.out.size (HK.out k hx))
  have H7 := WirS.hide (H6.out.trans (HF7.out.below H6.out.size (fun k hk hx => by
    have h1 := HK.out k hx
    have h2 := H1.out.size
    omega)))
  have HKP := WirS.hide (kept_any u7 g n c2 bs b c hL7 hB7 (by have := HHY.out; omega))
  clear hL7 hB7 HO5 HO6 HX5 HL5 HL6 HK HF7 HF5 HG5
  go_wp2_with (first
    | (go_at_call 22; refine (HKP.out).mono ?_; rintro e u8 ⟨rfl, hb⟩; have H8 := WirS.hide (H7.out.trans (hb.mono H7.out.size)); clear hb)
    | (go_at_call 47; refine (awake_any _).mono ?_; rintro e u9 ⟨rfl, hb⟩; have H9 := WirS.hide (H8.out.trans (hb.mono H8.out.size)); clear hb))
  go_ret
  exact ⟨rfl, H9.out⟩
end ValDD
end Go.Proofs.Ytackcnncjeajpaa

