/-
  ValSA, ValSB, in one text.
-/
import Derived.Test.YthcemghamdmjmaaPkD
import Derived.Test.YthcemghamdmjmaaPkA
namespace Go.Proofs.Ythcemghamdmjmaa
namespace ValSA
open Go.RowKit
open BlkM WirM WirS
open WirH (sa bin_sub slR)

/-- The reader as it lies. -/
structure RR (w : World) (R : Nat) (a : Option Addr) (c : Nat) (bs : List Int) (p : Int) (fe fa : Int) : Prop where
  cell : At w R 155 [.slice a bs.length c, .int .i64 p, .int .i64 fe, .int .i64 fa]
  bin : BIn w (.slice a bs.length c) bs
  off : (Value.slice a bs.length c).ownBlock ≠ some R
  olt : ∀ k, (Value.slice a bs.length c).ownBlock = some k → k < w.heap.size
theorem RR.fr {X : Nat → Prop} {w w' : World} {R : Nat} {a : Option Addr} {c : Nat} {bs : List Int} {p fe fa : Int} (h : RR w R a c bs p fe fa) (hf : Fr X w w') (h1 : ¬ X R) (h2 : ∀ k, (Value.slice a bs.length c).ownBlock = some k → ¬ X k) : RR w' R a c bs p fe fa :=
  ⟨At.fr h.cell hf h1, h.bin.fr hf h2, h.off, fun k hk => Nat.lt_of_lt_of_le (h.olt k hk) hf.size⟩
theorem RR.below {w w' : World} {R : Nat} {a : Option Addr} {c : Nat} {bs : List Int} {p fe fa : Int} (h : RR w R a c bs p fe fa) (hb : Below w.heap.size w w') : RR w' R a c bs p fe fa := h.fr (X := fun _ => False) (Fr.of_below hb) (fun h => h) (fun _ _ h => h)
theorem RR.set {w w' : World} {R : Nat} {a : Option Addr} {c : Nat} {bs : List Int} {p fe fa q ge ga : Int} (h : RR w R a c bs p fe fa) (hf : Fr (fun k => k = R) w w') (hA : At w' R 155 [.slice a bs.length c, .int .i64 q, .int .i64 ge, .int .i64 ga]) : RR w' R a c bs q ge ga :=
  ⟨hA, h.bin.fr hf (fun k hk e => h.off (by rw [hk, e])), h.off, fun k hk => Nat.lt_of_lt_of_le (h.olt k hk) hf.size⟩
theorem fails_ok (w : World) (R : Nat) (a : Option Addr) (c : Nat) (bs : List Int) (p e at' : Int) (h : RR w R a c bs p 0 0) :
    Calls Try.prog 198 #[.pointer (some ⟨R, 0, none⟩), .int .i64 e, .int .i64 at'] w fun en w' => en = .returned (.tuple #[]) ∧ RR w' R a c bs p e at' ∧ Fr (fun k => k = R) w w' := by
  have c2 : w.cell? ⟨R, 2, none⟩ = some (.int .i64 0) := h.cell.cell 2
  have c3 : w.cell? ⟨R, 3, none⟩ = some (.int .i64 0) := h.cell.cell 3
  have f2 := h.cell.frozen 2
  have f3 := h.cell.frozen 3
  have H := WirS.hide h
  clear h
  go_enter Try.func198, Try.ntmps198
  go_wp2_with fail
  first | go_end0 | refine bodyPost_ret (results_none rfl _ _ _) rfl ?_
  refine ⟨rfl, H.out.set (((Fr.refl (fun k => k = R) w).setCell R 2 _ (fun _ => rfl)).setCell R 3 _ (fun _ => rfl)) ?_, ((Fr.refl (fun k => k = R) w).setCell R 2 _ (fun _ => rfl)).setCell R 3 _ (fun _ => rfl)⟩
  exact (H.out.cell.setCell 2 _).setCell 3 _
theorem fails_not (w : World) (R : Nat) (a : Option Addr) (c : Nat) (bs : List Int) (p fe fa e at' : Int) (h : RR w R a c bs p fe fa) (hne : fe ≠ 0) :
    Calls Try.prog 198 #[.pointer (some ⟨R, 0, none⟩), .int .i64 e, .int .i64 at'] w fun en w' => en = .returned (.tuple #[]) ∧ w = w' := by
  have c2 : w.cell? ⟨R, 2, none⟩ = some (.int .i64 fe) := h.cell.cell 2
  have e1 : (fe == 0) = false := by simpa using hne
  clear h hne
  go_enter Try.func198, Try.ntmps198
  go_wp2_with fail
  first | go_end0 | refine bodyPost_ret (results_none rfl _ _ _) rfl ?_
  exact ⟨rfl, rfl⟩
theorem newr_any (w : World) (a : Option Addr) (n c : Nat) (bs : List Int) (h : BIn w (.slice a n c) bs) (hn : n ≤ 1099511627776) :
    Calls Try.prog 31 #[.slice a n c] w fun e w' => ∃ R a2 c2, e = .returned (.pointer (some ⟨R, 0, none⟩)) ∧ w.heap.size ≤ R ∧ RR w' R a2 c2 bs 0 0 0 ∧ (∀ k, (Value.slice a2 bs.length c2).ownBlock = some k → w.heap.size ≤ k) ∧ Below w.heap.size w w' := by
  have hnl : n = bs.length := by obtain ⟨_, _, e, _⟩ := h; cases e; rfl
  obtain ⟨i0, hi, hz0, hz1, hz2⟩ := info_parts (show (Try.prog.info? 5).map (fun i => (i.zero, i.size, i.bytes)) = some (some (.int .u8 0), 1, 1) by kernel_rfl)
  have hb : Below w.heap.size w (w.alloc (.cells #[] 5)) := Below.alloc (Below.refl _ _) (Nat.le_refl _) _
  have ownNew : WirM.Own (w.alloc (.cells #[] 5)) 5 (.slice (some ⟨w.heap.size, 0, none⟩) 0 0) [] := World.ownsRow_made w #[] 0 (Nat.zero_le _) (Nat.zero_le _) (by simp)
  obtain ⟨v1, u1, r1, o1, f1, n1⟩ := app_any (P := Try.prog) (w.alloc (.cells #[] 5)) 32 32 32 5 i0 _ Try.underlying32 hi hz0 hz1 hz2 rfl (.slice (some ⟨w.heap.size, 0, none⟩) 0 0) (.slice a n c) [] bs ownNew ((h.below hb).src Try.underlying32) (by simp; omega)
  rw [List.nil_append] at o1
  have HB := WirS.hide (hb.trans (f1.below (B := w.heap.size) (by simp) (fun k hk hx => by simp [Value.ownBlock] at hx; omega)))
  have HN := WirS.hide (show ∀ k, v1.ownBlock = some k → w.heap.size ≤ k from fun k hk => by
    rcases n1 k hk with hx | hx
    · simp [Value.ownBlock] at hx
      omega
    · simp at hx
      omega)
  obtain ⟨va, vc, rfl⟩ : ∃ va vc, v1 = .slice va bs.length vc := by obtain ⟨va, vc, e, _⟩ := o1.bin; exact ⟨va, vc, e⟩
  obtain ⟨m, hm⟩ : ∃ m, bs.length = m := ⟨_, rfl⟩
  have HO := WirS.hide o1
  have HM := WirS.hide hm
  rw [hm] at r1
  clear hb f1 n1 o1 h hi hz0 hz1 hz2 hnl ownNew hm
  go_enter Try.func31, Try.ntmps31
  go_upto_region 1 with fail
  refine wp_region_lit ?_
  refine sV (.slice (some ⟨w.heap.size, 0, none⟩) 0 0) (w.alloc (.cells #[] 5)) (by kernel_rfl) (by kernel_rfl) ?_
  simp only [Act.put, List.setIfInBounds_toArray, List.set_cons_succ, List.set_cons_zero]
  refine sV (.slice a n c) (w.alloc (.cells #[] 5)) (by kernel_rfl) (by kernel_rfl) ?_
  simp only [Act.put, List.setIfInBounds_toArray, List.set_cons_succ, List.set_cons_zero]
  refine sA (by kernel_rfl) 32 32 _ _ (by rfl) (.slice (some ⟨w.heap.size, 0, none⟩) 0 0) (.slice a n c) (by kernel_rfl) (by kernel_rfl) (.slice va m vc) (u1) r1 ?_
  simp only [Act.put, List.setIfInBounds_toArray, List.set_cons_succ, List.set_cons_zero]
  go_wp2_with fail
  go_ret
  have hal : Below u1.heap.size u1 (u1.alloc (.cells #[.slice va m vc, .int .i64 0, .int .i64 0, .int .i64 0] 155)) := Below.alloc (Below.refl _ _) (Nat.le_refl _) _
  have hAt := At.new u1 155 [.slice va m vc, .int .i64 0, .int .i64 0, .int .i64 0]
  refine ⟨u1.heap.size, va, vc, rfl, HB.out.size, ⟨by rw [HM.out]; exact hAt, HO.out.bin.below hal, ?_, fun k hk => ?_⟩, HN.out, HB.out.trans (hal.mono HB.out.size)⟩
  · intro e
    have := HO.out.lt _ e
    omega
  · have := HO.out.lt k hk
    simp
    omega
end ValSA
end Go.Proofs.Ythcemghamdmjmaa

namespace Go.Proofs.Ythcemghamdmjmaa
namespace ValSB
open Go.RowKit
open BlkM WirM WirS ValSA
open WirH (sa bin_sub slR)

theorem take_fault (w : World) (R : Nat) (a : Option Addr) (c : Nat) (bs : List Int) (p fe fa n at' : Int) (h : RR w R a c bs p fe fa) (hne : fe ≠ 0) :
    Calls Try.prog 197 #[.pointer (some ⟨R, 0, none⟩), .int .i64 n, .int .i64 at'] w fun en w' => en = .returned (.slice none 0 0) ∧ w = w' := by
  have c2 : w.cell? ⟨R, 2, none⟩ = some (.int .i64 fe) := h.cell.cell 2
  have e1 : (fe == 0) = false := by simpa using hne
  have e2 : (fe != 0) = true := by simpa using hne
  clear h hne
  go_enter Try.func197, Try.ntmps197
  go_wp2_with fail
  go_ret
  exact ⟨rfl, rfl⟩
theorem take_short (w : World) (R : Nat) (a : Option Addr) (c : Nat) (bs : List Int) (p n : Nat) (at' : Int) (h : RR w R a c bs (p : Int) 0 0) (hp : p ≤ bs.length) (hn : bs.length < p + n) (hs : bs.length ≤ 1099511627776) (_ : (n : Int) ≤ 9223372036854775807) :
    Calls Try.prog 197 #[.pointer (some ⟨R, 0, none⟩), .int .i64 (n : Int), .int .i64 at'] w fun en w' => en = .returned (.slice none 0 0) ∧ RR w' R a c bs (p : Int) 6 at' ∧ Fr (fun k => k = R) w w' := by
  have c0 : w.cell? ⟨R, 0, none⟩ = some (.slice a bs.length c) := h.cell.cell 0
  have c1 : w.cell? ⟨R, 1, none⟩ = some (.int .i64 (p : Int)) := h.cell.cell 1
  have c2 : w.cell? ⟨R, 2, none⟩ = some (.int .i64 0) := h.cell.cell 2
  have HD := WirS.hide (fun N => h.below (below_drewN (Below.refl w.heap.size w) N))
  generalize hm : bs.length = m at *
  have g1 : (m : Int) - (p : Int) < (n : Int) := by omega
  have hd : decide ((m : Int) - (p : Int) < (n : Int)) = true := by simpa using g1
  have hi0 : p ≤ 1099511627776 := by omega
  have HM := WirS.hide hm
  clear h hm g1
  go_enter Try.func197, Try.ntmps197
  go_wp2_with fail
  go_quiet (fail)
  go_wp2_with (go_at_call 198; refine (fails_ok _ R a c bs (p : Int) 6 at' (HD.out _)).mono ?_; rintro e u ⟨rfl, hr, hf⟩; have HR := WirS.hide hr; have HF := WirS.hide hf; clear hr hf)
  go_ret
  exact ⟨rfl, HR.out, (Fr.of_below (below_drewN (Below.refl w.heap.size w) _)).trans HF.out⟩
set_option maxHeartbeats 4000000 in
theorem take_ok2 (w : World) (R : Nat) (a : Option Addr) (c : Nat) (bs : List Int) (p n : Nat) (at' : Int) (h : RR w R a c bs (p : Int) 0 0) (hn : p + n ≤ bs.length) (hs : bs.length ≤ 1099511627776) :
    Calls Try.prog 197 #[.pointer (some ⟨R, 0, none⟩), .int .i64 (n : Int), .int .i64 at'] w fun en w' => ∃ va vc, en = .returned (.slice va n vc) ∧ BIn w' (.slice va n vc) ((bs.drop p).take n) ∧ RR w' R a c bs ((p + n : Nat) : Int) 0 0 ∧ Fr (fun k => k = R) w w' ∧ ∀ k, (Value.slice va n vc).ownBlock = some k → w.heap.size ≤ k := by
  have c0 : w.cell? ⟨R, 0, none⟩ = some (.slice a bs.length c) := h.cell.cell 0
  have c1 : w.cell? ⟨R, 1, none⟩ = some (.int .i64 (p : Int)) := h.cell.cell 1
  have c2 : w.cell? ⟨R, 2, none⟩ = some (.int .i64 0) := h.cell.cell 2
  have H := WirS.hide h
  have hbin := h.bin
  have HLT := WirS.hide h.cell.lt
  have hcap : bs.length ≤ c := by obtain ⟨_, _, e, hc, _⟩ := hbin; cases e; exact hc
  have hsl : ∀ Y, (Instr.sliceAt 32 (.slice a bs.length c) (some (.int .i64 (p : Int))) (some (.int .i64 ((p : Int) + (n : Int)))) none).run Try.prog Y = .ok (.slice (sa a c p) n (c - p)) Y := fun Y => by
    have := slR a bs.length c p (p + n) n rfl hn hcap Y
    rwa [Int.natCast_add] at this
  have HSUB := WirS.hide (bin_sub hbin p n hn)
  obtain ⟨xs, hxs⟩ : ∃ xs, (bs.drop p).take n = xs := ⟨_, rfl⟩
  have hxl : xs.length = n := by rw [← hxs, List.length_take, List.length_drop]; omega
  rw [hxs] at HSUB ⊢
  generalize hsa : sa a c p = sx at *
  obtain ⟨m, hm⟩ : ∃ m, bs.length = m := ⟨_, rfl⟩
  have hn2 : p + n ≤ m := by omega
  rw [hm] at c0 hsl hs
  have hd : decide ((m : Int) - (p : Int) < (n : Int)) = false := by simp; omega
  have hwr : IntKind.i64.wrap ((p : Int) + (n : Int)) = (p : Int) + (n : Int) := IntWalk.i64_in _ (by omega)
  have hp0 : p ≤ 1099511627776 := by omega
  have hn0 : n ≤ 1099511627776 := by omega
  obtain ⟨i0, hi, hz0, hz1, hz2⟩ := info_parts (show (Try.prog.info? 5).map (fun i => (i.zero, i.size, i.bytes)) = some (some (.int .u8 0), 1, 1) by kernel_rfl)
  have HAP := WirS.hide (fun (U : World) (hb : Below w.heap.size w U) => (show ∃ v1 u1, (Builtin.append_ #[32, 32] 32 #[.slice (some ⟨U.heap.size, 0, none⟩) 0 0, .slice sx n (c - p)]).run Try.prog (U.alloc (.cells #[] 5)) = .ok v1 u1 ∧ (∃ va vc, v1 = .slice va n vc) ∧ BIn u1 v1 xs ∧ (∀ k, v1.ownBlock = some k → w.heap.size ≤ k) ∧ Below w.heap.size w u1 from by
    have hal : Below w.heap.size w (U.alloc (.cells #[] 5)) := hb.alloc hb.size _
    obtain ⟨v1, u1, r1, o1, f1, n1⟩ := app_any (P := Try.prog) (U.alloc (.cells #[] 5)) 32 32 32 5 i0 _ Try.underlying32 hi hz0 hz1 hz2 rfl (.slice (some ⟨U.heap.size, 0, none⟩) 0 0) (.slice sx n (c - p)) [] xs (World.ownsRow_made U #[] 0 (Nat.zero_le _) (Nat.zero_le _) (by simp)) ((HSUB.out.below hal).src Try.underlying32) (by simp; omega)
    rw [List.nil_append] at o1
    have hbu : Below w.heap.size w u1 := hal.trans (f1.below (B := w.heap.size) (by have := hb.size; simp; omega) (fun k hk hx => by have := hb.size; simp [Value.ownBlock] at hx; omega))
    refine ⟨v1, u1, r1, ?_, o1.bin, fun k hk => ?_, hbu⟩
    · obtain ⟨va, vc, e, _⟩ := o1.bin
      rw [hxl] at e
      exact ⟨va, vc, e⟩
    · have := hb.size
      rcases n1 k hk with hx | hx
      · simp [Value.ownBlock] at hx
        omega
      · simp at hx
        omega))
  have HM := WirS.hide hm
  have hmn : ((p : Int) + (n : Int)).toNat = p + n := by omega
  clear h hbin hcap hi hz0 hz1 hz2 hxs hxl hsa hm hn
  go_enter Try.func197, Try.ntmps197
  go_wp2_with fail
  go_quiet (fail)
  go_upto_region 6 with fail
  have hD : Below w.heap.size w (w.drewN nq) := below_drewN (Below.refl _ _) _
  have H1 := WirS.hide (H.out.below hD)
  obtain ⟨W1, e1⟩ : ∃ Y, Y = w.drewN nq := ⟨_, rfl⟩
  rw [← e1] at hD H1
  rw [← e1]
  have c0 : W1.cell? ⟨R, 0, none⟩ = some (.slice a m c) := by rw [← HM.out]; exact H1.out.cell.cell 0
  have c1 : W1.cell? ⟨R, 1, none⟩ = some (.int .i64 (p : Int)) := H1.out.cell.cell 1
  have HD1 := WirS.hide hD
  clear e1 hD
  go_region_held3 (fun w' => w'.cell? ⟨R, 0, none⟩ = some (.slice a m c) ∧ w'.cell? ⟨R, 1, none⟩ = some (.int .i64 (p : Int))) (go_keep)
    (first | (obtain ⟨v1, u1, hrun, ⟨va, vc, rfl⟩, hxb, hxn, hxB⟩ := HAP.out W1.drew (HD1.out.trans ((below_drewN (Below.refl _ _) 1).mono HD1.out.size)); have HXB := WirS.hide hxb; have HXN := WirS.hide hxn; have HXU := WirS.hide hxB; have hh := H.out.below hxB; have d0 : u1.cell? ⟨R, 0, none⟩ = some (.slice a m c) := (by rw [← HM.out]; exact hh.cell.cell 0); have d1 : u1.cell? ⟨R, 1, none⟩ = some (.int .i64 (p : Int)) := hh.cell.cell 1; have f1 := hh.cell.frozen 1; have HHU := WirS.hide hh; clear hxb hxn hxB hh; refine ValF.step_app rfl _ _ _ _ rfl _ _ rfl rfl (.slice va n vc) u1 hrun ?_))
  go_wp2_with fail
  go_ret
  have hst : Fr (fun k => k = R) u1 (u1.setCell ⟨R, 1, none⟩ (.int .i64 ((p : Int) + (n : Int)))) := (Fr.refl (fun k => k = R) u1).setCell R 1 _ (fun _ => rfl)
  refine ⟨va, vc, rfl, HXB.out.fr hst (fun k hk e => ?_), HHU.out.set hst ?_, (Fr.of_below HXU.out).trans' hst (fun _ _ h => h), HXN.out⟩
  · have := HXN.out k hk
    have := HLT.out
    omega
  · rw [Int.natCast_add]
    exact HHU.out.cell.setCell 1 _
theorem take_ok (w : World) (R : Nat) (a : Option Addr) (c : Nat) (bs : List Int) (p n : Nat) (at' : Int) (h : RR w R a c bs (p : Int) 0 0) (hn : p + n ≤ bs.length) (hs : bs.length ≤ 1099511627776) :
    Calls Try.prog 197 #[.pointer (some ⟨R, 0, none⟩), .int .i64 (n : Int), .int .i64 at'] w fun en w' => ∃ va vc, en = .returned (.slice va n vc) ∧ BIn w' (.slice va n vc) ((bs.drop p).take n) ∧ RR w' R a c bs ((p + n : Nat) : Int) 0 0 ∧ Fr (fun k => k = R) w w' :=
  (take_ok2 w R a c bs p n at' h hn hs).mono fun _ _ ⟨va, vc, h1, h2, h3, h4, _⟩ => ⟨va, vc, h1, h2, h3, h4⟩
end ValSB
end Go.Proofs.Ythcemghamdmjmaa

