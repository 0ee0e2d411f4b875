/-
  VtK, VtE, VtT, in one text.
-/
import Derived.Test.YtpambhlhkmkagaaGreatDoorPvC
import Derived.Test.YtpambhlhkmkagaaGreatDoorPvK
import Derived.Test.YtpambhlhkmkagaaGreatDoorPvO
import Derived.Test.YtpambhlhkmkagaaGreatDoorPvQ
import Derived.Test.YtpambhlhkmkagaaGreatDoorPvL
import Derived.Test.YtpambhlhkmkagaaGreatDoorPvN
namespace Go.Proofs.YtpambhlhkmkagaaGreatDoor
namespace VtK
open Go.RowKit
open BlkM WirM
def kc : Value → Int | .int _ k => k | _ => 0
set_option maxRecDepth 10000 in
theorem k_open {H : Type} {enc : TypeId × Value → H} {W : World} {base : Nat} {v : Value} {d : DataW H} {p : List MemPlace} (hv : Value.okWide Tryz.prog W .any base 24 v)
    (h : DataW.Trod enc Tryz.prog W 0 (fun _ => true) true 24 v d p) : ∃ l : List Int, v = .agg (b8 l).toArray ∧ l.length = 4 ∧ ∀ x ∈ l, 0 ≤ x ∧ x < 256 := by
  simp only [Value.okWide, Tryz.underlying24] at hv
  obtain ⟨cs, rfl, hsz, _⟩ := hv
  have c8 : Tryz.prog.cellsOf 24 = 4 := by kernel_rfl
  have c1 : Tryz.prog.cellsOf 5 = 1 := by kernel_rfl
  rw [c8] at hsz
  obtain ⟨fuel, hf⟩ := h
  obtain ⟨xs, m1, rfl, _, _, hn, hel⟩ := DataW.trod_array Tryz.underlying24 hf
  simp only [c1, Nat.mul_one] at hel
  have hcl : (Value.agg cs).cells.toList = cs.toList := rfl
  rw [hcl] at hel
  have key : ∀ i (hi : i < cs.toList.length), ∃ k : Int, cs.toList[i] = .int .u8 k ∧ 0 ≤ k ∧ k < 256 := by
    intro i hi
    have hi2 : i < 4 := by rw [← hsz]; simpa using hi
    have h1 := hel i hi2
    rw [List.getElem?_eq_getElem (show i < xs.length by omega)] at h1
    obtain ⟨k, e1, _, hw⟩ := DataW.trod_int Tryz.underlying5 h1
    have : ((cs.toList.drop i).take 1) = [cs.toList[i]] := by
      rw [List.drop_eq_getElem_cons hi]
      rfl
    rw [this] at e1
    refine ⟨k, by simpa using e1, ?_⟩
    simp [Lit.wf, IntKind.min, IntKind.max, IntKind.signed, IntKind.bits] at hw
    omega
  refine ⟨cs.toList.map kc, ?_, by rw [List.length_map]; simpa using hsz, ?_⟩
  · have : b8 (cs.toList.map kc) = cs.toList := by
      apply List.ext_getElem
      · simp [b8]
      · intro i h1 h2
        obtain ⟨k, e, _⟩ := key i h2
        simp only [b8, List.getElem_map]
        rw [e]
        rfl
    rw [this]
  · intro x hx
    obtain ⟨c, hc, rfl⟩ := List.mem_map.1 hx
    obtain ⟨i, hi, rfl⟩ := List.getElem_of_mem hc
    obtain ⟨k, e, h0, h1⟩ := key i hi
    rw [e]
    exact ⟨h0, h1⟩
set_option maxRecDepth 10000 in
theorem key_in {H : Type} {enc : TypeId × Value → H} {W : World} {base : Nat} {v : Value} {d : DataW H} {p : List MemPlace} (hv : Value.okWide Tryz.prog W .any base 24 v)
    (h : DataW.Trod enc Tryz.prog W 0 (fun _ => true) true 24 v d p) : ∃ kv : ValA.Vd, v = .agg #[.int .u8 kv.a, .int .u8 kv.b, .int .u8 kv.c, .int .u8 kv.d] ∧ kv.ok := by
  obtain ⟨l, e, hl, hr⟩ := k_open hv h
  obtain _ | ⟨a, _ | ⟨b, _ | ⟨c, _ | ⟨d, _ | ⟨e, l⟩⟩⟩⟩⟩ := l <;> simp at hl
  exact ⟨⟨a, b, c, d, 0⟩, e, ⟨hr a (by simp), hr b (by simp), hr c (by simp), hr d (by simp), ⟨by show _ ≤ (0 : Int); omega, by show (0 : Int) < _; omega⟩⟩⟩
end VtK
end Go.Proofs.YtpambhlhkmkagaaGreatDoor

namespace Go.Proofs.YtpambhlhkmkagaaGreatDoor
namespace VtE
open Go.RowKit
open BlkM WirM WirS ValA ValB ValC ValD ValP
open WirA (putZ putE)
open WirD (numB)
open WirE (NewB)
open WirX (Thg Bag own bag_own)
open ValJ
open WrwB (rwt RW RBW)
open CmTe (Rr r_num)
open WrwA (NO no_nil)

theorem r_key {w0 w : World} {l : List Thg} {W : Nat} {lim : Int} {v : Value} {ys : List Int} (x : Vd) (h : Bag w0 w (rwt W lim v ys 0 :: l)) (hl : ((ys.length + 4 : Nat) : Int) ≤ lim) :
    Calls Tryz.prog 32 #[.pointer (some ⟨W, 0, none⟩), .agg #[.int .u8 x.a, .int .u8 x.b, .int .u8 x.c, .int .u8 x.d]] w (Rr w0 l W lim (ys ++ x.key)) := by
  obtain ⟨e1, e2⟩ := w_ok (news := x.key) hl
  have C := WrwC.key_any w0 w l W lim v ys 0 x.key rfl h
  rw [e1, e2] at C
  exact C
set_option maxRecDepth 10000 in
set_option maxHeartbeats 2000000 in
theorem rencode_bad (w : World) (a : Option Addr) (n c : Nat) (vs : List Vd) (h : VIn w a n c vs) (hc : chk vs ≠ 0) :
    Calls Tryz.prog 11 #[.slice a n c] w fun e w' => e = .returned (.tuple #[.slice none 0 0, .int .i64 (chk vs)]) ∧ Below w.heap.size w w' := by
  have HC := WirS.hide (ValRB.rcheck_any w a n c vs h)
  generalize chk vs = cd at *
  have hn0 : (cd == 0) = false := by simpa using hc
  have hn1 : (cd != 0) = true := by simpa using hc
  clear h hc
  go_enter Tryz.func11, Tryz.ntmps11
  go_wp2_with ((go_at_call 16; refine (HC.out).mono ?_; rintro e u ⟨rfl, hb⟩; have HU := WirS.hide hb; clear hb))
  go_ret2
  exact ⟨rfl, HU.out⟩
def MidE (w : World) (W n : Nat) (vs : List Vd) (i : Value) (U : World) : Prop :=
  ∃ (k : Nat) (v : Value), k ≤ n ∧ i = .int .i64 (k : Int) ∧ Bag w U [rwt W 65536 v (numB (n : Int) ++ items (vs.take k)) 0]
set_option maxRecDepth 10000 in
set_option maxHeartbeats 4000000 in
theorem rencode_ok (w : World) (a : Option Addr) (n c : Nat) (vs : List Vd) (h : VIn w a n c vs) (hc : chk vs = 0) :
    Calls Tryz.prog 11 #[.slice a n c] w fun e w' => ∃ va vn vc, e = .returned (.tuple #[.slice va vn vc, .int .i64 0]) ∧ WirM.Own w' 5 (.slice va vn vc) (enc vs) ∧ NewB w (.slice va vn vc) ∧ Below w.heap.size w w' := by
  obtain ⟨v0, v64, hup, hpw⟩ := (chk_up vs).1 hc
  have hlen := h.len
  have HC := WirS.hide (ValRB.rcheck_any w a n c vs h)
  rw [hc] at HC
  have hn64 : n ≤ 64 := by omega
  have H := WirS.hide h
  have HL := WirS.hide hlen
  have HP := WirS.hide hpw
  have HIL := WirS.hide (fun k => Nat.le_trans (items_len (vs.take k) (fun x hx => h.ok x (List.mem_of_mem_take hx))) (Nat.mul_le_mul_left 13 (List.length_take_le' k vs)))
  have HNL := WirS.hide (numB_le (n : Int) (by omega))
  clear h hc v0 v64 hup hpw hlen
  go_enter Tryz.func11, Tryz.ntmps11
  go_upto_region 4 with ((go_at_call 16; refine (HC.out).mono ?_; rintro e w1 ⟨rfl, hb⟩; have HB1 := WirS.hide (Bag.nil hb); clear hb))
  go_upto_region 5 with ((go_at_call 30; refine (WrwB.new_any _ 65536 (by omega) (by omega)).mono ?_; rintro e w2 ⟨W, rfl, hW, hs, hb2⟩; have H2 := WirS.hide (Bag.new (o := rwt W 65536 (.slice none 0 0) [] 0) HB1.out hb2 hs (fun k hk => by rcases hk with rfl | hk; exact hW; simp [Value.ownBlock] at hk)); clear hW hs hb2 HB1))
  have HN := WirS.hide (r_num (n : Int) H2.out (by omega) (by omega) (by have := HNL.out; simp; omega))
  rw [List.nil_append] at HN
  go_upto_region 6 with ((go_at_call 31; refine (HN.out).mono ?_; rintro e w3 ⟨rfl, v3, hb⟩; have H3 := WirS.hide hb; clear hb HN H2))
  go_wp2_with fail
  go_loopw [7] (fun i wr => MidE w W n vs i wr) (fun i _ => n - (intOf i).toNat)
  case atStart => exact ⟨0, v3, Nat.zero_le _, rfl, by rw [List.take_zero]; simpa [items] using H3.out⟩
  case round =>
    clear H3
    obtain ⟨k, v, hk, rfl, hB⟩ := hrel
    by_cases hlt : k < n
    · obtain ⟨x, B, o, hx, hmem, rfl, hBl, hr⟩ := (H.out.below hB.low).cell hlt
      have r0 : wr.cell? ⟨B, o + k * 5, none⟩ = some (.int .u8 x.a) := hr 0 _ rfl
      have r1 : wr.cell? ⟨B, o + k * 5 + 1, none⟩ = some (.int .u8 x.b) := hr 1 _ rfl
      have r2 : wr.cell? ⟨B, o + k * 5 + 2, none⟩ = some (.int .u8 x.c) := hr 2 _ rfl
      have r3 : wr.cell? ⟨B, o + k * 5 + 3, none⟩ = some (.int .u8 x.d) := hr 3 _ rfl
      have hkl : (k : Int) < (n : Int) := by omega
      have hps := HP.out x hmem
      have hil := HIL.out k
      have hnl := HNL.out
      have hxl := numB_le x.p (by omega)
      have hvl := HL.out
      have hil2 : (items (vs.take k)).length ≤ 832 := Nat.le_trans hil (by omega)
      have HK := WirS.hide (r_key x hB (by rw [List.length_append]; omega))
      have HNX := WirS.hide (fun (U : World) (v' : Value) (hb : Bag w U [rwt W 65536 v' ((numB (n : Int) ++ items (vs.take k)) ++ x.key) 0]) => r_num x.p hb (by omega) (by omega) (by simp only [List.length_append, Vd.key, List.length_cons, List.length_nil]; omega))
      have HR4 := WirS.hide (fun (U : World) (hU : Below w.heap.size w U) => show U.cell? ⟨B, o + k * 5 + 4, none⟩ = some (.int .i64 x.p) from by
        obtain ⟨x', B', o', hx', _, e', _, hr'⟩ := (H.out.below hU).cell hlt
        cases e'
        rw [hx] at hx'
        cases hx'
        exact hr' 4 _ rfl)
      have HXX := WirS.hide hx
      clear hr hx hmem hB hps hil hnl hxl hvl hil2
      go_wp2_with (first | (go_at_call 32; refine (HK.out).mono ?_; rintro e u1 ⟨rfl, v1, hb1⟩; have HB1 := WirS.hide hb1; have l4 := HR4.out u1 hb1.low; clear hb1 r0 r1 r2 r3) | (go_at_call 31; refine (HNX.out _ _ HB1.out).mono ?_; rintro e u2 ⟨rfl, v2, hb2⟩; have HB2 := WirS.hide hb2; clear hb2))
      go_roundw
      case rel => exact ⟨k + 1, v2, by omega, by go_num, by rw [items_succ HXX.out, ← List.append_assoc, ← List.append_assoc]; exact HB2.out⟩
      case measure => simp [intOf]; omega
    · obtain rfl : k = n := by omega
      have hD := WrwB.done_ok wr W 65536 v _ hB.head
      rw [List.take_of_length_le (by rw [HL.out]; exact Nat.le_refl _)] at hD
      rw [show numB (k : Int) ++ items vs = enc vs by unfold enc; rw [HL.out]] at hD
      have HD := WirS.hide hD
      have HBl := WirS.hide hB.low
      clear hB hD
      go_wp2_with ((go_at_call 33; refine (HD.out).mono ?_; rintro e u2 ⟨da, dn, dc, rfl, ho, hnw, hb⟩; have HO := WirS.hide ho; have HNW := WirS.hide hnw; have HB2 := WirS.hide hb; clear ho hnw hb))
      go_ret2
      exact ⟨_, _, _, rfl, HO.out, fun q hq => Nat.le_trans HBl.out.size (HNW.out q hq), HBl.out.trans (HB2.out.mono HBl.out.size)⟩
end VtE
end Go.Proofs.YtpambhlhkmkagaaGreatDoor

namespace Go.Proofs.YtpambhlhkmkagaaGreatDoor
namespace VtT
open Go.RowKit
open BlkM WirM WirS ValA ValB ValC ValD ValP
open WirE (NewB)
open ValI (sumP tell)
open WideG (sumTo sumRes)

def ic (xs : List Int) : List Value := xs.map (fun x => .int .i64 x)
/-- Integers in memory of its own. -/
def OwnI (w : World) (v : Value) (xs : List Int) : Prop := w.ownsRow 0 3 1 v xs.length (ic xs)
theorem OwnI.nil (w : World) : OwnI w (.slice none 0 0) [] := World.ownsRow_nil w 0 _ 1
theorem OwnI.lt {w : World} {v : Value} {vs : List Int} (h : OwnI w v vs) : ∀ k, v.ownBlock = some k → k < w.heap.size := by
  obtain ⟨_, ⟨rfl, _⟩ | ⟨g, cap, cur, rfl, _, hg, _⟩⟩ := h
  · intro k hk
    simp [Value.ownBlock] at hk
  · intro k hk
    simp [Value.ownBlock] at hk
    subst hk
    exact (Array.getElem?_eq_some_iff.1 hg).1
theorem OwnI.fr {X : Nat → Prop} {w w' : World} {v : Value} {vs : List Int} (h : OwnI w v vs) (hf : Fr X w w') (ho : Off X v) : OwnI w' v vs := by
  have hlt := h.lt
  obtain ⟨hl, ⟨rfl, h0⟩ | ⟨g, cap, cur, rfl, hb, hg, hr⟩⟩ := h
  · exact ⟨hl, .inl ⟨rfl, h0⟩⟩
  · exact ⟨hl, .inr ⟨g, cap, cur, rfl, hb, (hf.block g (hlt g rfl) (ho g rfl)).trans hg, hr⟩⟩
theorem OwnI.below {w w' : World} {v : Value} {vs : List Int} (h : OwnI w v vs) (hb : Below w.heap.size w w') : OwnI w' v vs := h.fr (X := fun _ => False) (Fr.of_below hb) (fun _ _ h => h)
theorem OwnI.len_of {w : World} {v : Value} {vs : List Int} (h : OwnI w v vs) : ∃ a cap, v = .slice a vs.length cap := by
  obtain ⟨_, ⟨rfl, h0⟩ | ⟨g, cap, cur, rfl, _⟩⟩ := h
  · exact ⟨none, 0, by rw [h0]⟩
  · exact ⟨_, _, rfl⟩
theorem OwnI.cells {w : World} {a : Option Addr} {n c : Nat} {vs : List Int} (h : OwnI w (.slice a n c) vs) : n = 0 ∨ ∃ b, a = some ⟨b, 0, none⟩ ∧ b < w.heap.size ∧ ∀ k, k < n → w.cell? ⟨b, 0 + k, none⟩ = some (.int .i64 (vs.getD k 0)) := by
  have hlt := h.lt
  have hc := fun g => World.ownsRow.cells (w := w) (base := 0) (e := 3) (size := 1) (v := .slice a n c) (n := vs.length) (xs := ic vs) h (g := g)
  obtain ⟨hl, ⟨e, h0⟩ | ⟨g, cap, cur, e, hb, hg, h1, h2, h3, h4⟩⟩ := h
  · cases e
    exact .inl rfl
  · cases e
    refine .inr ⟨g, rfl, hlt g rfl, fun k hk => ?_⟩
    have hx : vs[k]? = some (vs[k]'hk) := List.getElem?_eq_getElem _
    have h5 : (ic vs)[k]? = some (.int .i64 (vs.getD k 0)) := by
      rw [List.getD_eq_getElem?_getD, hx]
      simp [ic, hx]
    have h6 := hc g rfl _ _ h5
    rw [Addr.add_mid] at h6
    exact h6
theorem app_int (w : World) (v : Value) (olds : List Int) (x : Int) (V : Nat) (hO : OwnI w v olds) (hV : At w V 3 [.int .i64 x]) (hlen : olds.length ≤ 1000) :
    ∃ v' w', (Builtin.append_ #[53, 53] 53 #[v, .slice (some ⟨V, 0, none⟩) 1 1]).run Tryz.prog w = .ok v' w' ∧ OwnI w' v' (olds ++ [x]) ∧ Fr (fun k => v.ownBlock = some k) w w' ∧ NewOr w v v' := by
  obtain ⟨i0, hi, hz0, hz1, hz2⟩ := info_parts (show (Tryz.prog.info? 3).map (fun i => (i.zero, i.size, i.bytes)) = some (some (.int .i64 0), 1, 8) by kernel_rfl)
  have hx : Src Tryz.prog 1 53 (.slice (some ⟨V, 0, none⟩) 1 1) 1 [.int .i64 x] w := Src.ofSlice w Tryz.underlying53 ⟨V, 0, none⟩ 1 1 [.int .i64 x] rfl (fun j u hj => by rw [Addr.add_mid, Nat.zero_add, hV.cell]; exact hj) (fun u hu => by rw [List.mem_singleton.1 hu]; rfl)
  obtain ⟨v', w', h1, h2, h3, h4⟩ := CmA.app_row (P := Tryz.prog) w 53 53 53 3 i0 _ Tryz.underlying53 hi hz0 1 hz1 (by omega) rfl v _ olds.length 1 (ic olds) [.int .i64 x] hO hx (by omega)
  refine ⟨v', w', h1, ?_, h3, h4⟩
  unfold OwnI
  rw [List.length_append, show ic (olds ++ [x]) = ic olds ++ [.int .i64 x] by simp [ic]]
  exact h2
theorem ixV (B o m d q : Nat) (hq : q < m) (W : World) : (Instr.indexAt 22 (.slice (some ⟨B, o, none⟩) m d) (.int .i64 (q : Int))).run Tryz.prog W = .ok (.pointer (some ⟨B, o + q * 5, none⟩)) W := by
  simp [Instr.indexAt, run_underlying Tryz.underlying22, asIntOf, go_sem]
  intro h
  omega
theorem opV (a : Operand → Value) (ob : Oper) (x y : Operand) (B o m d q : Nat) (ho : ob.op = Op.indexAddr 22 x y) (hx : a x = .slice (some ⟨B, o, none⟩) m d) (hy : a y = .int .i64 (q : Int)) (hq : q < m) (W : World) :
    (execOp a ob).run Tryz.prog W = .ok (.value (.pointer (some ⟨B, o + q * 5, none⟩))) W := by
  unfold execOp
  rw [ho]
  simp only [hx, hy]
  simp only [Sem.run_bind, ixV B o m d q hq W, Result.andThen_ok, Sem.run_pure]
set_option maxRecDepth 10000 in
set_option maxHeartbeats 2000000 in
theorem rtotal_bad (w : World) (a : Option Addr) (n c : Nat) (vs : List Vd) (h : VIn w a n c vs) (hc : chk vs ≠ 0) :
    Calls Tryz.prog 7 #[.slice a n c] w fun e w' => e = .returned (.tuple #[.agg #[.int .u64 0, .int .u64 0], .int .i64 (chk vs)]) ∧ Below w.heap.size w w' := by
  obtain ⟨W0, e0⟩ : ∃ X, X = w.alloc (.cells #[.int .u64 0, .int .u64 0] 29) := ⟨_, rfl⟩
  have hA : At W0 w.heap.size 29 [.int .u64 0, .int .u64 0] := by rw [e0]; exact At.new w _ _
  have hB : Below w.heap.size w W0 := by rw [e0]; exact Below.alloc (Below.refl _ _) (Nat.le_refl _) _
  have HC := WirS.hide (ValRB.rcheck_any W0 a n c vs (h.below hB))
  generalize chk vs = cd at *
  have hn0 : (cd == 0) = false := by simpa using hc
  have hn1 : (cd != 0) = true := by simpa using hc
  have HA := WirS.hide hA
  have HB := WirS.hide hB
  have E0 := WirS.hide e0
  clear h e0 hA hB hc
  go_enter Tryz.func7, Tryz.ntmps7
  go_upto_region 1 with fail
  rw [← E0.out]
  go_upto_region 2 with ((go_at_call 16; refine (HC.out).mono ?_; rintro e u ⟨rfl, hb⟩; have HU := WirS.hide hb; clear hb))
  have hu := HA.out.below HU.out HA.out.lt
  have c0 : u.cell? ⟨w.heap.size, 0, none⟩ = some (.int .u64 0) := hu.cell 0
  have c1 : u.cell? ⟨w.heap.size, 1, none⟩ = some (.int .u64 0) := hu.cell 1
  have f0 := hu.frozen 0
  have f1 := hu.frozen 1
  have HBU := WirS.hide (HB.out.trans (HU.out.mono HB.out.size))
  clear hu
  go_wp2_with fail
  exact bodyPost_ret (v := .tuple #[.agg #[.int .u64 0, .int .u64 0], .int .i64 cd]) (by simp [results, Tryz.results7, go_sem, c0, c1]) rfl ⟨rfl, (HBU.out.setCell (Nat.le_refl _) _).setCell (Nat.le_refl _) _⟩
def MidT (w : World) (vs : List Vd) (n : Nat) (s i : Value) (U : World) : Prop :=
  ∃ (k : Nat) (sa : Option Addr) (sc : Nat), k ≤ n ∧ i = .int .i64 (k : Int) ∧ s = .slice sa k sc ∧ OwnI U (.slice sa k sc) ((vs.take k).map Vd.p) ∧ NewB w (.slice sa k sc) ∧ (Value.slice sa k sc).ownBlock ≠ some w.heap.size ∧ At U w.heap.size 29 [.int .u64 0, .int .u64 0] ∧ Below w.heap.size w U
set_option maxRecDepth 10000 in
set_option maxHeartbeats 4000000 in
theorem rtotal_ok (w : World) (a : Option Addr) (n c : Nat) (vs : List Vd) (h : VIn w a n c vs) (hc : chk vs = 0) :
    Calls Tryz.prog 7 #[.slice a n c] w fun e w' => e = .returned (tell (sumP vs) 0) ∧ Below w.heap.size w w' := by
  obtain ⟨v0, v64, hup, hpw⟩ := (chk_up vs).1 hc
  have hlen := h.len
  obtain ⟨W0, e0⟩ : ∃ X, X = w.alloc (.cells #[.int .u64 0, .int .u64 0] 29) := ⟨_, rfl⟩
  have hA : At W0 w.heap.size 29 [.int .u64 0, .int .u64 0] := by rw [e0]; exact At.new w _ _
  have hB : Below w.heap.size w W0 := by rw [e0]; exact Below.alloc (Below.refl _ _) (Nat.le_refl _) _
  have HC := WirS.hide (ValRB.rcheck_any W0 a n c vs (h.below hB))
  rw [hc] at HC
  have hn64 : n ≤ 64 := by omega
  have HA := WirS.hide hA
  have HB := WirS.hide hB
  have E0 := WirS.hide e0
  have H := WirS.hide h
  have HL := WirS.hide hlen
  have HP := WirS.hide hpw
  unfold tell
  obtain ⟨hi, ehi⟩ : ∃ x, x = sumP vs / 18446744073709551616 := ⟨_, rfl⟩
  obtain ⟨lo, elo⟩ : ∃ x, x = sumP vs % 18446744073709551616 := ⟨_, rfl⟩
  rw [← ehi, ← elo]
  have EHI := WirS.hide ehi
  have ELO := WirS.hide elo
  clear h e0 hA hB hc v0 v64 hup hpw hlen ehi elo
  go_enter Tryz.func7, Tryz.ntmps7
  go_upto_region 1 with fail
  rw [← E0.out]
  go_upto_region 4 with ((go_at_call 16; refine (HC.out).mono ?_; rintro e w1 ⟨rfl, hb⟩; have HU := WirS.hide hb; clear hb))
  have HT := WirS.hide (HA.out.below HU.out HA.out.lt)
  have HB1 := WirS.hide (HB.out.trans (HU.out.mono HB.out.size))
  have HST := WirS.hide (show MidT w vs n (.slice none 0 0) (.int .i64 0) w1 from
    ⟨0, none, 0, Nat.zero_le _, rfl, rfl, OwnI.nil _, fun k hk => by simp [Value.ownBlock] at hk, by simp [Value.ownBlock], HT.out, HB1.out⟩)
  clear HT
  go_wp2_with fail
  go_loopw [5, 6] (fun s i wr => MidT w vs n s i wr) (fun _ i _ => n - (intOf i).toNat)
  case atStart => exact HST.out
  case round =>
    clear HST
    obtain ⟨k, sa, sc, hk, rfl, rfl, hO, hNB, hoX, hS, hBr⟩ := hrel
    by_cases hlt : k < n
    · obtain ⟨x, B, o, hx, hmem, rfl, hBl, hr⟩ := (H.out.below hBr).cell hlt
      have r4 : wr.cell? ⟨B, o + k * 5 + 4, none⟩ = some (.int .i64 x.p) := hr 4 _ rfl
      have hkl : (k : Int) < (n : Int) := by omega
      have htk : vs.take k ++ [x] = vs.take (k + 1) := by rw [List.take_add_one, hx]; rfl
      have hl0 := HL.out
      have hal : Below wr.heap.size wr (wr.alloc (.cells #[.int .i64 x.p] 3)) := Below.alloc (Below.refl _ _) (Nat.le_refl _) _
      obtain ⟨v', u9, hrun, ho, hf, hnw⟩ := app_int (wr.alloc (.cells #[.int .i64 x.p] 3)) (.slice sa k sc) ((vs.take k).map Vd.p) x.p wr.heap.size (hO.below hal) (At.new _ _ _) (by rw [List.length_map, List.length_take]; omega)
      obtain ⟨ia, ic', rfl⟩ := ho.len_of
      rw [show ((vs.take k).map Vd.p ++ [x.p]).length = k + 1 by rw [List.length_append, List.length_map, List.length_take]; simp; omega] at ho hrun hnw
      have HIO := WirS.hide (show OwnI u9 (.slice ia (k + 1) ic') ((vs.take (k + 1)).map Vd.p) from by rw [← htk, List.map_append]; exact ho)
      have hBs := hBr.size
      have HBF := WirS.hide (show Below w.heap.size w u9 from (hBr.trans (hal.mono hBs)).trans (hf.below (Nat.le_trans hBs hal.size) (fun q hq hx => by have := hNB q hx; omega)))
      have HNN := WirS.hide (show NewB w (.slice ia (k + 1) ic') from fun q hq => by
        rcases hnw q hq with h | h
        · exact hNB q h
        · exact Nat.le_trans (Nat.le_trans hBs hal.size) h)
      have HAN := WirS.hide (show At u9 w.heap.size 29 [.int .u64 0, .int .u64 0] from At.fr (hS.below hal hS.lt) hf hoX)
      have HON := WirS.hide (show (Value.slice ia (k + 1) ic').ownBlock ≠ some w.heap.size from fun e => by
        rcases hnw _ e with h | h
        · exact hoX h
        · have := hS.lt
          simp at h
          omega)
      have HRUN := WirS.hide hrun
      clear hr hx hmem hO hNB hoX hS hBr htk hl0 hal hrun ho hf hnw hBs
      go_upto_region 8 with fail
      refine wp_region_lit ?_
      refine sV (.slice sa k sc) (wr) (by kernel_rfl) (by kernel_rfl) ?_
      simp only [Act.put, List.setIfInBounds_toArray, List.set_cons_succ, List.set_cons_zero]
      refine sV (.slice (some ⟨B, o, none⟩) n c) (wr) (by kernel_rfl) (by kernel_rfl) ?_
      simp only [Act.put, List.setIfInBounds_toArray, List.set_cons_succ, List.set_cons_zero]
      refine sV (.int .i64 (k : Int)) (wr) (by kernel_rfl) (by kernel_rfl) ?_
      simp only [Act.put, List.setIfInBounds_toArray, List.set_cons_succ, List.set_cons_zero]
      refine sV (.pointer (some ⟨B, o + k * 5, none⟩)) wr (by kernel_rfl) (opV _ _ (.tmp 20) (.tmp 21) B o n c k (by kernel_rfl) (by kernel_rfl) (by kernel_rfl) hlt wr) ?_
      simp only [Act.put, List.setIfInBounds_toArray, List.set_cons_succ, List.set_cons_zero]
      refine sV (.pointer (some ⟨B, o + k * 5 + 4, none⟩)) (wr) (by kernel_rfl) (by kernel_rfl) ?_
      simp only [Act.put, List.setIfInBounds_toArray, List.set_cons_succ, List.set_cons_zero]
      refine sP (by kernel_rfl) _ _ (by rfl) ⟨B, o + k * 5 + 4, none⟩ (by kernel_rfl) (.int .i64 x.p) r4 (by kernel_rfl) ?_
      simp only [Act.put, List.setIfInBounds_toArray, List.set_cons_succ, List.set_cons_zero]
      refine sV (.slice (some ⟨wr.heap.size, 0, none⟩) 1 1) (wr.alloc (.cells #[.int .i64 x.p] 3)) (by kernel_rfl) (by kernel_rfl) ?_
      simp only [Act.put, List.setIfInBounds_toArray, List.set_cons_succ, List.set_cons_zero]
      refine sA (by kernel_rfl) 53 53 _ _ (by rfl) (.slice sa k sc) (.slice (some ⟨wr.heap.size, 0, none⟩) 1 1) (by kernel_rfl) (by kernel_rfl) (.slice ia (k + 1) ic') (u9) HRUN.out ?_
      simp only [Act.put, List.setIfInBounds_toArray, List.set_cons_succ, List.set_cons_zero]
      clear HRUN
      go_wp2_with fail
      go_roundw
      case rel => exact ⟨k + 1, ia, ic', by omega, by go_num, rfl, HIO.out, HNN.out, HON.out, HAN.out, HBF.out⟩
      case measure => simp [intOf]; omega
    · obtain rfl : k = n := by omega
      have hlen := HL.out
      rw [List.take_of_length_le (by omega)] at hO
      have hp : ∀ j, (vs.map Vd.p).getD j 0 ≤ 4611686018427387904 ∧ 0 ≤ (vs.map Vd.p).getD j 0 := fun j => by
        by_cases hj : j < vs.length
        · have := HP.out (vs[j]'hj) (List.getElem_mem _)
          rw [List.getD_eq_getElem?_getD, List.getElem?_map, List.getElem?_eq_getElem hj]
          simp
          omega
        · rw [List.getD_eq_getElem?_getD, List.getElem?_eq_none (by simp; omega)]
          simp
      have hsum : Calls Tryz.prog 23 #[.slice sa k sc] wr (fun e w' => ∃ V, e = .returned V ∧ sumRes (vs.map Vd.p) V ∧ Below wr.heap.size wr w') := by
        rcases hO.cells with h0 | ⟨b, rfl, hb, hcl⟩
        · exact WideS.rsum_any (vs.map Vd.p) sa 0 0 k sc wr (by simp [hlen]) (by omega) (fun j _ => by have := hp j; omega) (.inl h0) (fun j hj => by omega) (.inl h0)
        · exact WideS.rsum_any (vs.map Vd.p) (some ⟨b, 0, none⟩) b 0 k sc wr (by simp [hlen]) (by omega) (fun j _ => by have := hp j; omega) (.inr rfl) hcl (.inr hb)
      have HSum := WirS.hide (show Calls Tryz.prog 23 #[.slice sa k sc] wr (fun e w' => e = .returned (.tuple #[.agg #[.int .u64 (sumP vs / 18446744073709551616), .int .u64 (sumP vs % 18446744073709551616)], .int .i64 0]) ∧ Below wr.heap.size wr w') from hsum.mono (fun e w' ⟨V, h1, h2, h3⟩ => by
        rcases h2 with ⟨_, h2⟩ | ⟨⟨j, _, h2⟩, _⟩
        · refine ⟨by rw [h1, h2]; unfold sumP; rw [List.length_map], h3⟩
        · have := hp j
          omega))
      rw [← EHI.out, ← ELO.out] at HSum
      have HS := WirS.hide hS
      have HBr := WirS.hide hBr
      clear hp hsum hS hBr hlen hO hNB hoX
      go_upto_region 9 with fail
      refine wp_region_lit ?_
      refine sV (.slice sa k sc) (wr) (by kernel_rfl) (by kernel_rfl) ?_
      simp only [Act.put, List.setIfInBounds_toArray, List.set_cons_succ, List.set_cons_zero]
      refine sC (by kernel_rfl) (by kernel_rfl) HSum.out ?_
      rintro w2 hb
      simp only [Act.put, List.setIfInBounds_toArray, List.set_cons_succ, List.set_cons_zero]
      have hu := HS.out.below hb HS.out.lt
      have c0 : w2.cell? ⟨w.heap.size, 0, none⟩ = some (.int .u64 0) := hu.cell 0
      have c1 : w2.cell? ⟨w.heap.size, 1, none⟩ = some (.int .u64 0) := hu.cell 1
      have f0 := hu.frozen 0
      have f1 := hu.frozen 1
      have hlt2 := hu.lt
      have HB2 := WirS.hide (HBr.out.trans (hb.mono HBr.out.size))
      clear hu hb
      go_wp2_with fail
      exact bodyPost_ret (v := .tuple #[.agg #[.int .u64 hi, .int .u64 lo], .int .i64 0]) (by simp [results, Tryz.results7, go_sem, c0, c1]) rfl ⟨rfl, (HB2.out.setCell (Nat.le_refl _) _).setCell (Nat.le_refl _) _⟩
end VtT
end Go.Proofs.YtpambhlhkmkagaaGreatDoor

