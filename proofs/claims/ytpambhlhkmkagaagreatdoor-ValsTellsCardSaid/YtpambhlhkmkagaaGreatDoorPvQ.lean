/-
  ValQ, ValR, ValZ, ValS, ValBK, ValRA, ValRB, in one text.
-/
import Derived.Test.YtpambhlhkmkagaaGreatDoorValO
import Derived.Test.YtpambhlhkmkagaaGreatDoorPvM
import Derived.OwnWalkIn
import Derived.TacticsInMore
import Derived.Test.YtpambhlhkmkagaaGreatDoorPvO
import Derived.Test.YtpambhlhkmkagaaGreatDoorPvI
import Derived.Test.YtpambhlhkmkagaaGreatDoorBlkM
import Derived.Test.YtpambhlhkmkagaaGreatDoorWirM
import Derived.Test.YtpambhlhkmkagaaGreatDoorWirS
import Derived.Test.YtpambhlhkmkagaaGreatDoorPvK
import Derived.Test.YtpambhlhkmkagaaGreatDoorPvD
import Derived.Test.YtpambhlhkmkagaaGreatDoorPvE
import Derived.Test.YtpambhlhkmkagaaGreatDoorPvF
import Derived.Test.YtpambhlhkmkagaaGreatDoorPvH
import Derived.Test.YtpambhlhkmkagaaGreatDoorPvN
import Derived.Test.YtpambhlhkmkagaaGreatDoorSeq2
namespace Go.Proofs.YtpambhlhkmkagaaGreatDoor
namespace ValQ
open Go.RowKit
open BlkM WirM WirS WirA WirB ValA ValB ValC ValD ValE ValH ValP ValM ValN ValO
open Go.Proofs.YtpambhlhkmkagaaGreatDoor.Seq2
attribute [local go_sem] Oper.semAt_some

theorem sAi {F : Fence} {n : Nat} {P : Program} {w : World} {ops : Array Oper} {rest : List Oper} {o : Oper} {a : Act} {Q : Exit → Act → World → Prop} (hg : o.guard = none) (t tx : TypeId) (s x : Operand) (hop : o.op = Op.call { callee := Callee.builtin Builtin.append, args := #[s, x], argTypes := #[t, tx] })
    (v y : Value) (hs : a.eval s = v) (hx : a.eval x = y) (v' : Value) (w' : World) (hrun : (Builtin.append_ #[t, tx] o.type #[v, y]).run P w = .ok v' w') (h : wpListIn F n P ops Q rest (a.put o.dst v') w') : wpListIn F n P ops Q (o :: rest) a w := by
  refine wpListIn_plain hg fun K hK' => ?_
  unfold Oper.wpIn
  refine ⟨?_, ?_⟩
  · simp [Oper.about, hop, resolve, Target.leads, Sem.run_pure]
  · rw [Oper.semAt_plain F _ _ (by rw [hop]; intro c hc'; cases hc')]
    simp [execOp, hop, resolve, invoke, builtin, hs, hx, hrun, Result.andThen]
    exact hK' _ _ h
theorem at_put {U : World} {k : Nat} {T : TypeId} {cs : List Value} (h : At U k T cs) (l : Nat) (o o' : Obj) (hl : U.heap[l]? = some o) (ho : o.isCells = false) : At (U.putObj l o') k T cs := by
  have hne : k ≠ l := by
    rintro rfl
    unfold At at h
    rw [h] at hl
    cases hl
    simp [Obj.isCells] at ho
  exact (World.putObj_heap_other hne).trans h
theorem own_put {U : World} {v : Value} {vs : List Vd} (h : OwnV U v vs) (l : Nat) (o o' : Obj) (hl : U.heap[l]? = some o) (ho : o.isCells = false) : OwnV (U.putObj l o') v vs := by
  obtain ⟨⟨hn, ⟨rfl, h0⟩ | ⟨g, cap, cur, rfl, hb, hg, hr⟩⟩, hok⟩ := h
  · exact ⟨⟨hn, .inl ⟨rfl, h0⟩⟩, hok⟩
  · have hne : g ≠ l := by
      rintro rfl
      rw [hg] at hl
      cases hl
      simp [Obj.isCells] at ho
    exact ⟨⟨hn, .inr ⟨g, cap, cur, rfl, hb, (World.putObj_heap_other hne).trans hg, hr⟩⟩, hok⟩
/-- append onto memory of its own turns cells alone. -/
theorem keeps_app {w w' : World} {v : Value} {vs : List Vd} (h : OwnV w v vs) (hf : Fr (fun k => v.ownBlock = some k) w w') : KeepsOthers w w' :=
  ⟨hf.size, fun k o hk ho => by
    refine (hf.block k (Array.getElem?_eq_some_iff.1 hk).1 ?_).trans hk
    intro e
    obtain ⟨⟨_, ⟨rfl, _⟩ | ⟨g, cap, cur, rfl, _, hg, _⟩⟩, _⟩ := h
    · simp [Value.ownBlock] at e
    · simp [Value.ownBlock] at e
      subst e
      rw [hg] at hk
      cases hk
      simp [Obj.isCells] at ho⟩
/-- What is left of a list: what no change removes. -/
def flt (l : List Vd) : List Vd := l.filter fun v => v.p != 0
theorem flt_one (l : List Vd) (x : Vd) : flt (l ++ [x]) = flt l ++ (if x.p = 0 then [] else [x]) := by
  unfold flt
  rw [List.filter_append]
  by_cases h : x.p = 0 <;> simp [h]
theorem flt_le {l m : List Vd} (h : l <+: m) : (flt l).length ≤ (flt m).length := by
  obtain ⟨r, rfl⟩ := h
  unfold flt
  rw [List.filter_append, List.length_append]
  omega
/-- What Change tells. -/
def chgd (vs ch : List Vd) : Int × List Vd :=
  if chk vs ≠ 0 then (chk vs, []) else if chgE vs none ch ≠ 0 then (chgE vs none ch, []) else
  if (flt (mrg vs ch)).length = 0 then (6, []) else if 64 < (flt (mrg vs ch)).length then (7, []) else (0, flt (mrg vs ch))
theorem merge_any (w : World) (a a2 : Option Addr) (n c n2 c2 : Nat) :
    Calls Tryz.prog 72 #[.slice a n c, .slice a2 n2 c2] w fun e w' => e = .returned (.func (.func 93) #[] #[.pointer (some ⟨w.heap.size, 0, none⟩), .pointer (some ⟨w.heap.size + 1, 0, none⟩)]) ∧ w' = (w.alloc (.cells #[.slice a n c] 22)).alloc (.cells #[.slice a2 n2 c2] 22) := by
  go_enter Tryz.func72, Tryz.ntmps72
  go_wp2
  go_ret
  exact ⟨rfl, rfl⟩
def ChP (w : World) (vs ch : List Vd) (e : Ending) (w' : World) : Prop :=
  ∃ va vn vc, e = .returned (.tuple #[.slice va vn vc, .int .i64 (chgd vs ch).1]) ∧ OwnV w' (.slice va vn vc) (chgd vs ch).2 ∧ (∀ k, (Value.slice va vn vc).ownBlock = some k → w.heap.size ≤ k) ∧ Below w.heap.size w w'
/-- What stands between two rounds of the loop. -/
def IQ (w : World) (V : Nat) (pre : List Vd) (U : World) : Prop :=
  ∃ v, At U V 22 [v] ∧ OwnV U v (flt pre) ∧ (∀ k, v.ownBlock = some k → V < k) ∧ (flt pre).length ≤ 64 ∧ At U w.heap.size 22 [.slice none 0 0] ∧ At U (w.heap.size + 1) 30 [.int .i64 0] ∧ Below w.heap.size w U
def IxQ (w : World) (c : Code) (pre : List Vd) (U : World) : Prop :=
  c = .ret ∧ 64 < (flt pre).length ∧ At U w.heap.size 22 [.slice none 0 0] ∧ At U (w.heap.size + 1) 30 [.int .i64 7] ∧ Below w.heap.size w U
theorem at_new {A C : World} {k : Nat} {T : TypeId} {cs : List Value} (h : At A k T cs) (hB : Below A.heap.size A C) : At C k T cs := h.below hB h.lt
theorem IQ_stays (w : World) (V b : Nat) (hb : w.heap.size ≤ b) : Stays b (IQ w V) where
  new := fun s A C ⟨v, h1, h2, h3, h4, h5, h6, h7⟩ hB => ⟨v, at_new h1 hB, h2.below hB, h3, h4, at_new h5 hB, at_new h6 hB, h7.trans (hB.mono h7.size)⟩
  put := fun s U l o o' hl ho hc ⟨v, h1, h2, h3, h4, h5, h6, h7⟩ => ⟨v, at_put h1 l o o' ho hc, own_put h2 l o o' ho hc, h3, h4, at_put h5 l o o' ho hc, at_put h6 l o o' ho hc, h7.trans (below_put o' ho (by omega))⟩
theorem IxQ_stays (w : World) (b : Nat) (hb : w.heap.size ≤ b) (c : Code) : Stays b (IxQ w c) where
  new := fun s A C ⟨h1, h2, h5, h6, h7⟩ hB => ⟨h1, h2, at_new h5 hB, at_new h6 hB, h7.trans (hB.mono h7.size)⟩
  put := fun s U l o o' hl ho hc ⟨h1, h2, h5, h6, h7⟩ => ⟨h1, h2, at_put h5 l o o' ho hc, at_put h6 l o o' ho hc, h7.trans (below_put o' ho (by omega))⟩
set_option maxRecDepth 10000 in
set_option maxHeartbeats 4000000 in
theorem change_ok (w : World) (a a2 : Option Addr) (n c n2 c2 : Nat) (vs ch : List Vd) (h : VIn w a n c vs) (h2 : VIn w a2 n2 c2 ch) (hn2 : n2 ≤ 1000000) (hc : chk vs = 0) (hg : chgE vs none ch = 0) :
    Calls Tryz.prog 43 #[.slice a n c, .slice a2 n2 c2] w (ChP w vs ch) := by
  have hlen := h.len
  have hlen2 := h2.len
  have hv64 : vs.length ≤ 64 := ((chk_up vs).1 hc).2.1
  obtain ⟨S, eS⟩ : ∃ S, S = w.heap.size := ⟨_, rfl⟩
  obtain ⟨W0, e0⟩ : ∃ X, X = (w.alloc (.cells #[.slice none 0 0] 22)).alloc (.cells #[.int .i64 0] 30) := ⟨_, rfl⟩
  have hb0 : Below w.heap.size w W0 := by rw [e0]; exact Below.alloc (Below.alloc (Below.refl _ _) (Nat.le_refl _) _) (by simp) _
  have HC := WirS.hide (check_any W0 a n c vs (h.below hb0))
  rw [hc] at HC
  have HG := WirS.hide (fun U (hU : Below w.heap.size w U) => checkChanges_any U a a2 n c n2 c2 vs ch (h.below hU) (h2.below hU) hn2)
  rw [hg] at HG
  have HB0 := WirS.hide hb0
  have E0 := WirS.hide e0
  refine (callsIn_wide (n := 5)).1 ?_
  refine callsIn_of_wp_marks Tryz.func43 rfl trivial ?_
  simp only [Tryz.ntmps43, List.size_toArray, List.length_cons, List.length_nil, Nat.reduceAdd, Nat.reduceSub, Array.replicate_succ, Array.replicate_zero, List.push_toArray, List.append_toArray, List.nil_append, List.cons_append]
  have hS0 : At W0 w.heap.size 22 [.slice none 0 0] := by rw [e0]; exact (At.new w _ _).alloc _
  have hS1 : At W0 (w.heap.size + 1) 30 [.int .i64 0] := by
    rw [e0]
    have := At.new (w.alloc (.cells #[.slice none 0 0] 22)) 30 [.int .i64 0]
    rw [World.size_alloc] at this
    exact this
  clear e0
  gi_wp2_with fail
  refine ⟨trivial, ?_⟩
  rw [← E0.out]
  refine (callsIn_wide.2 HC.out).mono ?_
  rintro e w1 ⟨rfl, hb1⟩
  have HB1 := WirS.hide (hb0.trans (hb1.mono hb0.size))
  have hS0 := at_new hS0 hb1
  have hS1 := at_new hS1 hb1
  clear hb1 E0 HC
  gi_wp2_with fail
  refine ⟨trivial, ?_⟩
  refine (callsIn_wide.2 (HG.out _ HB1.out)).mono ?_
  rintro e w2 ⟨rfl, hb2⟩
  have HB2 := WirS.hide (HB1.out.trans (hb2.mono HB1.out.size))
  have hS0 := at_new hS0 hb2
  have hS1 := at_new hS1 hb2
  clear hb2
  gi_wp2_with fail
  refine ⟨trivial, ?_⟩
  refine (callsIn_wide.2 (merge_any _ _ _ _ _ _ _)).mono ?_
  rintro e w3 ⟨rfl, hw3⟩
  obtain ⟨V, eV⟩ : ∃ V, V = w2.heap.size := ⟨_, rfl⟩
  have hVs : w.heap.size + 1 < V := by rw [eV]; exact hS1.lt
  have hb23 : Below w2.heap.size w2 w3 := by rw [hw3]; exact Below.alloc (Below.alloc (Below.alloc (Below.refl _ _) (Nat.le_refl _) _) (by simp) _) (by simp; omega) _
  have hV3 : At w3 V 22 [.slice none 0 0] := by rw [hw3, eV]; exact ((At.new w2 _ _).alloc _).alloc _
  have hA3 : At w3 (V + 1) 22 [.slice a n c] := by
    rw [hw3, eV]
    have := (At.new (w2.alloc (.cells #[.slice none 0 0] 22)) 22 [.slice a n c]).alloc (.cells #[.slice a2 n2 c2] 22)
    rw [World.size_alloc] at this
    exact this
  have hB3 : At w3 (V + 1 + 1) 22 [.slice a2 n2 c2] := by
    rw [hw3, eV]
    have := At.new ((w2.alloc (.cells #[.slice none 0 0] 22)).alloc (.cells #[.slice a n c] 22)) 22 [.slice a2 n2 c2]
    rw [World.size_alloc, World.size_alloc] at this
    exact this
  have hs3 : w3.heap.size = V + 3 := by rw [hw3, eV]; simp
  have HB3 := WirS.hide (HB2.out.trans (hb23.mono HB2.out.size))
  have hS0 := at_new hS0 hb23
  have hS1 := at_new hS1 hb23
  have hI0 : IQ w V [] w3 := ⟨_, hV3, OwnV.nil _, fun k hk => by simp [Value.ownBlock] at hk, by simp [flt], hS0, hS1, HB3.out⟩
  clear hw3
  gi_wp2_with fail
  rw [← eV]
  clear hb23 eS hS0 hS1 hV3 eV
  refine Seq2.range (gf := 93) (lb := #[.pointer (some ⟨V + 1, 0, none⟩), .pointer (some ⟨V + 1 + 1, 0, none⟩)]) rfl (enters_of Tryz.func93 (by kernel_rfl) rfl)
    (merge_gives _ w w3 HB3.out (V + 1) (V + 1 + 1) a a2 n c n2 c2 vs ch h h2 hA3 hB3) (by decide) (fun h k => Below.trans h k) (fun W l o o' hl ho => below_put o' ho (by omega)) (Below.refl _ _) (fun _ => rfl)
    (IQ w V) (IxQ w) (IQ_stays w V _ (by omega)) (IxQ_stays w _ (by omega)) hI0
    (fun x a' U => ∃ X, At U X 55 x.cells ∧ a' = { tmps := #[.slice a n c, .slice a2 n2 c2, undef, undef, .pointer (some ⟨w.heap.size, 0, none⟩), .pointer (some ⟨w.heap.size + 1, 0, none⟩), .int .i64 0, .int .i64 0, .pointer (some ⟨V, 0, none⟩), .pointer (some ⟨X, 0, none⟩), .slice a n c, .int .i64 0, .int .i64 0, .bool false, undef, .slice a n c, .slice a2 n2 c2, .int .i64 0, .int .i64 0, .bool false, undef, .slice a n c, .slice a2 n2 c2, .func (.func 93) #[] #[.pointer (some ⟨V + 1, 0, none⟩), .pointer (some ⟨V + 1 + 1, 0, none⟩)], .agg #[.int .u8 x.a, .int .u8 x.b, .int .u8 x.c, .int .u8 x.d, .int .i64 x.p], undef, undef, undef, undef, undef, undef, undef, undef, undef, undef, undef, undef, undef], defers := [] })
    (fun x a' U l o o' _ ho hc ⟨X, h1, h2⟩ => ⟨X, at_put h1 l o o' ho hc, h2⟩) ?assign ?body ?done ?stop
  case assign =>
    intro l pre x W K hi hsp hK
    unfold encV
    gi_wp2
    exact hK _ _ ((KeepsOthers.alloc W _).from _) (Below.alloc (Below.refl _ _) (by obtain ⟨_, _, _, _, _, _, _, h7⟩ := hi; exact h7.size) _) ((IQ_stays w V _ (Nat.le_refl _)).new _ _ _ hi (Below.alloc (Below.refl _ _) (Nat.le_refl _) _)) ⟨_, At.new W _ x.cells, rfl⟩
  case body =>
    rintro l pre x a' W ⟨v, hV, hO, hvk, h64, hS0, hS1, hB⟩ ⟨X, hX, rfl⟩ hsp hsz
    have hxm : x ∈ mrg vs ch := hsp.subset (by simp)
    have hxo : x.ok := (mrg_mem vs ch x hxm).elim (h.ok x) (h2.ok x)
    obtain ⟨va, vc, rfl⟩ := hO.len_of
    have hXf := fun (U : World) (hU : At U X 55 x.cells) => (show U.cell? ⟨X, 0, none⟩ = some (.int .u8 x.a) ∧ U.cell? ⟨X, 1, none⟩ = some (.int .u8 x.b) ∧ U.cell? ⟨X, 2, none⟩ = some (.int .u8 x.c) ∧ U.cell? ⟨X, 3, none⟩ = some (.int .u8 x.d) ∧ U.cell? ⟨X, 4, none⟩ = some (.int .i64 x.p) from ⟨hU.cell 0, hU.cell 1, hU.cell 2, hU.cell 3, hU.cell 4⟩)
    obtain ⟨r0, r1, r2, r3, r4⟩ := hXf W hX
    have HXF := WirS.hide hXf
    have HX := WirS.hide hX
    have HV := WirS.hide hV
    have HO := WirS.hide hO
    have HS0 := WirS.hide hS0
    have HS1 := WirS.hide hS1
    have HB := WirS.hide hB
    have HVK := WirS.hide hvk
    have HF1 := WirS.hide (flt_one pre x)
    have HXO := WirS.hide hxo
    have HR := WirS.hide (fun U => removes_any U x)
    obtain ⟨m, hm⟩ : ∃ m, (flt pre).length = m := ⟨_, rfl⟩
    rw [hm] at HV HO HVK h64
    have HM := WirS.hide hm
    clear hXf hX hV hO hS0 hS1 hB hvk hxm hxo h h2 hm hA3 hB3 hI0 hsp
    by_cases hp : x.p = 0
    · rw [show (x.p == 0) = true by simpa using hp] at HR
      rw [if_pos hp, List.append_nil] at HF1
      have HP := WirS.hide hp
      clear hp
      gi_wp2_with (refine ⟨trivial, ?_⟩; gi_at_call 73; refine (CallsIn.inRound l (callsIn_wide.2 (HR.out _))).mono ?_; rintro e u ⟨rfl, hb⟩; have HU := WirS.hide hb; clear hb)
      refine ⟨Keeps.below (KeepsFrom.refl _ _) HU.out, HU.out.mono HB.out.size, .slice va m vc, at_new HV.out HU.out, ?_, HVK.out, ?_, at_new HS0.out HU.out, at_new HS1.out HU.out, HB.out.trans (HU.out.mono HB.out.size)⟩
      · rw [HF1.out]
        exact HO.out.below HU.out
      · rw [HF1.out, HM.out]
        exact h64
    · rw [show (x.p == 0) = false by simpa using hp] at HR
      rw [if_neg hp] at HF1
      clear hp
      by_cases h6 : m = 64
      · subst h6
        gi_wp2_with (refine ⟨trivial, ?_⟩; gi_at_call 73; refine (CallsIn.inRound l (callsIn_wide.2 (HR.out _))).mono ?_; rintro e u ⟨rfl, hb⟩; have HU := WirS.hide hb; have c0 : u.cell? ⟨V, 0, none⟩ = some (.slice va 64 vc) := (at_new HV.out hb).cell 0; have s0 : u.cell? ⟨w.heap.size, 0, none⟩ = some (.slice none 0 0) := (at_new HS0.out hb).cell 0; have s1 : u.cell? ⟨w.heap.size + 1, 0, none⟩ = some (.int .i64 0) := (at_new HS1.out hb).cell 0; have f0 := (at_new HS0.out hb).frozen 0; have f1 := (at_new HS1.out hb).frozen 0; clear hb)
        refine ⟨((Keeps.below (KeepsFrom.refl _ _) HU.out).setCell _ _).setCell _ _, rfl, ?_, (at_new HS0.out HU.out).setCell 0 _ |>.setCell_other (by omega) _ _, ((at_new HS1.out HU.out).setCell_other (by omega) _ _).setCell 0 _, ((HB.out.trans (HU.out.mono HB.out.size)).setCell (p := ⟨w.heap.size, 0, none⟩) (Nat.le_refl _) _).setCell (p := ⟨w.heap.size + 1, 0, none⟩) (by show w.heap.size ≤ w.heap.size + 1; omega) _⟩
        rw [HF1.out, List.length_append, HM.out]
        simp
      · have g6 : ((m : Int) == 64) = false := by simp; omega
        gi_wp2_with (first | (refine ⟨trivial, ?_⟩; gi_at_call 73; refine (CallsIn.inRound l (callsIn_wide.2 (HR.out _))).mono ?_; rintro e u ⟨rfl, hb⟩; have HU := WirS.hide hb; have hVu := at_new HV.out hb; have c0 : u.cell? ⟨V, 0, none⟩ = some (.slice va m vc) := hVu.cell 0; have hXu := at_new HX.out hb; obtain ⟨q0, q1, q2, q3, q4⟩ := HXF.out u hXu; have hal : Below u.heap.size u (u.alloc (.cells #[.int .u8 x.a, .int .u8 x.b, .int .u8 x.c, .int .u8 x.d, .int .i64 x.p] 55)) := Below.alloc (Below.refl _ _) (Nat.le_refl _) _; obtain ⟨v', u', hrun, ho, hf, hn⟩ := app_vals (u.alloc (.cells #[.int .u8 x.a, .int .u8 x.b, .int .u8 x.c, .int .u8 x.d, .int .i64 x.p] 55)) 22 22 (.slice va m vc) (.slice (some ⟨u.heap.size, 0, none⟩) 1 1) _ [x] ((HO.out.below hb).below hal) (src_one Tryz.underlying22 _ 0 1 _ (fun j v hj => by rw [Nat.zero_add]; exact ((At.new u _ (Vd.cells x)).cell j).trans hj)) (fun y hy => by rw [List.mem_singleton.1 hy]; exact HXO.out) (by have := HM.out; simp; omega); obtain ⟨a5, c5, rfl⟩ := ho.len_of; obtain ⟨m5, hm5⟩ : ∃ m5, m5 = (flt pre ++ [x]).length := ⟨_, rfl⟩; rw [← hm5] at hrun ho hn; have HM5 := WirS.hide hm5; clear hm5; have hO2 := (HO.out.below hb).below hal; have hVn : ¬ (Value.slice va m vc).ownBlock = some V := (fun e => by have := HVK.out V e; omega); have hVu2 := At.fr (hVu.alloc (.cells #[.int .u8 x.a, .int .u8 x.b, .int .u8 x.c, .int .u8 x.d, .int .i64 x.p] 55)) hf hVn; have d0 : u'.cell? ⟨V, 0, none⟩ = some (.slice va m vc) := hVu2.cell 0; have fd0 := hVu2.frozen 0; have HRUN := WirS.hide hrun; have HO1 := WirS.hide ho; have HFr := WirS.hide hf; have HN1 := WirS.hide hn; have HA1 := WirS.hide hal; have HO2 := WirS.hide hO2; have HVu2 := WirS.hide hVu2; clear hb ho hf hn hal hrun hVu hXu hO2 hVn hVu2) | (gi_at_builtin; refine sAi rfl _ _ _ _ rfl _ _ rfl rfl (.slice a5 m5 c5) u' HRUN.out ?_))
        have hBu := HU.out.trans (HA1.out.mono HU.out.size)
        have hVB := HVu2.out.lt
        have hus := HB.out.size
        have hbu' : Below w.heap.size w u' := (HB.out.trans (hBu.mono hus)).trans (HFr.out.below (Nat.le_trans hus hBu.size) (fun q hq hx => by have := HVK.out q hx; omega))
        have hoff : ∀ k, k ≤ V → ¬ (Value.slice va m vc).ownBlock = some k := fun k hk e => by have := HVK.out k e; omega
        refine ⟨((Keeps.below (KeepsFrom.refl _ _) hBu).trans ((keeps_app HO2.out HFr.out).from _)).setCell _ _, ?_, .slice a5 m5 c5, HVu2.out.setCell 0 _, ?_, ?_, ?_, ?_, ?_, hbu'.setCell (p := ⟨V, 0, none⟩) (by show w.heap.size ≤ V; omega) _⟩
        · exact ((hBu.mono hus).trans (HFr.out.below (Nat.le_trans hus hBu.size) (fun q hq hx => by have := HVK.out q hx; omega))).setCell (p := ⟨V, 0, none⟩) (by show w.heap.size ≤ V; omega) _
        · rw [HF1.out]
          refine HO1.out.fr (X := fun q => q = V) ((Fr.refl _ u').setCell V 0 _ (fun _ => rfl)) (fun q hq hx => ?_)
          subst hx
          rcases HN1.out q hq with h3 | h3
          · exact hoff q (Nat.le_refl _) h3
          · have := HV.out.lt
            have := HU.out.size
            simp at h3
            omega
        · intro q hq
          rcases HN1.out q hq with h3 | h3
          · exact HVK.out q h3
          · have := HV.out.lt
            have := HU.out.size
            simp at h3
            omega
        · rw [HF1.out, List.length_append, HM.out]
          simp
          omega
        · exact (At.fr (at_new HS0.out hBu) HFr.out (hoff _ (by omega))).setCell_other (by omega) _ _
        · exact (At.fr (at_new HS1.out hBu) HFr.out (hoff _ (by omega))).setCell_other (by omega) _ _
  case done =>
    rintro D ys W hD rfl ⟨v, hV, hO, hvk, h64, hS0, hS1, hB⟩ hK
    obtain ⟨va, vc, rfl⟩ := hO.len_of
    obtain ⟨m, hm⟩ : ∃ m, (flt (mrg vs ch)).length = m := ⟨_, rfl⟩
    rw [hm] at hV hO hvk h64
    have c0 : W.cell? ⟨V, 0, none⟩ = some (.slice va m vc) := hV.cell 0
    have s0 : W.cell? ⟨w.heap.size, 0, none⟩ = some (.slice none 0 0) := hS0.cell 0
    have s1 : W.cell? ⟨w.heap.size + 1, 0, none⟩ = some (.int .i64 0) := hS1.cell 0
    have f0 := hS0.frozen 0
    have f1 := hS1.frozen 0
    have HO := WirS.hide hO
    have HVK := WirS.hide hvk
    have HK := WirS.hide hK
    have HB := WirS.hide hB
    have HS0 := WirS.hide hS0
    have HS1 := WirS.hide hS1
    by_cases h0 : m = 0
    · have HCh := WirS.hide (show chgd vs ch = (6, []) by unfold chgd; rw [if_neg (by simp [hc]), if_neg (by simp [hg]), if_pos (by omega)])
      have g0 : ((m : Int) == 0) = true := by simp [h0]
      clear h0 hm hV hO hvk hS0 hS1 hB hK h h2 hA3 hB3 hI0
      gi_wp2
      have hK5 := ((KeepsOthers.setCell W ⟨w.heap.size, 0, none⟩ (.slice none 0 0)).trans (KeepsOthers.setCell _ ⟨w.heap.size + 1, 0, none⟩ (.int .i64 6))).same D _ HK.out rfl
      have hA5 := at_put ((HS0.out.setCell 0 (.slice none 0 0)).setCell_other (X := w.heap.size + 1) (by omega) 0 (.int .i64 6)) D _ (.deferred none) hK5 rfl
      have hB5 := at_put ((HS1.out.setCell_other (X := w.heap.size) (by omega) 0 (.slice none 0 0)).setCell 0 (.int .i64 6)) D _ (.deferred none) hK5 rfl
      have k0 := hA5.cell 0
      have k1 := hB5.cell 0
      simp only [List.set_cons_zero, List.getElem?_cons_zero] at k0 k1
      refine ⟨by simp, .inl ⟨_, _, rfl, run_takeDeferred hK5, ?_⟩⟩
      refine ⟨.tuple #[.slice none 0 0, .int .i64 6], by simp [results, Tryz.results43, go_sem, k0, k1], ⟨_, _, _, by rw [HCh.out], ?_, ?_, ?_⟩⟩
      · rw [HCh.out]
        exact OwnV.nil _
      · intro q hq
        simp [Value.ownBlock] at hq
      · exact (((HB.out.setCell (p := ⟨w.heap.size, 0, none⟩) (Nat.le_refl _) _).setCell (p := ⟨w.heap.size + 1, 0, none⟩) (by show w.heap.size ≤ w.heap.size + 1; omega) _)).trans (below_put _ hK5 (by omega))
    · have HCh := WirS.hide (show chgd vs ch = (0, flt (mrg vs ch)) by unfold chgd; rw [if_neg (by simp [hc]), if_neg (by simp [hg]), if_neg (by omega), if_neg (by omega)])
      have g0 : ((m : Int) == 0) = false := by simp; omega
      clear h0 hm hV hO hvk hS0 hS1 hB hK h h2 hA3 hB3 hI0
      gi_wp2
      have hK5 := ((KeepsOthers.setCell W ⟨w.heap.size, 0, none⟩ (.slice va m vc)).trans (KeepsOthers.setCell _ ⟨w.heap.size + 1, 0, none⟩ (.int .i64 0))).same D _ HK.out rfl
      have hA5 := at_put ((HS0.out.setCell 0 (.slice va m vc)).setCell_other (X := w.heap.size + 1) (by omega) 0 (.int .i64 0)) D _ (.deferred none) hK5 rfl
      have hB5 := at_put ((HS1.out.setCell_other (X := w.heap.size) (by omega) 0 (.slice va m vc)).setCell 0 (.int .i64 0)) D _ (.deferred none) hK5 rfl
      have k0 := hA5.cell 0
      have k1 := hB5.cell 0
      simp only [List.set_cons_zero, List.getElem?_cons_zero] at k0 k1
      refine ⟨by simp, .inl ⟨_, _, rfl, run_takeDeferred hK5, ?_⟩⟩
      refine ⟨.tuple #[.slice va m vc, .int .i64 0], by simp [results, Tryz.results43, go_sem, k0, k1], ⟨_, _, _, by rw [HCh.out], ?_, ?_, ?_⟩⟩
      · rw [HCh.out]
        refine own_put (HO.out.fr (X := fun q => q = w.heap.size ∨ q = w.heap.size + 1) (((Fr.refl _ W).setCell w.heap.size 0 _ (fun _ => .inl rfl)).setCell (w.heap.size + 1) 0 _ (fun _ => .inr rfl)) (fun q hq hx => ?_)) D _ (.deferred none) hK5 rfl
        have := HVK.out q hq
        omega
      · intro q hq
        have := HVK.out q hq
        omega
      · exact (((HB.out.setCell (p := ⟨w.heap.size, 0, none⟩) (Nat.le_refl _) _).setCell (p := ⟨w.heap.size + 1, 0, none⟩) (by show w.heap.size ≤ w.heap.size + 1; omega) _)).trans (below_put _ hK5 (by omega))
  case stop =>
    rintro D c pre W hD hsp ⟨rfl, h64, hS0, hS1, hB⟩ hK
    have HCh := WirS.hide (show chgd vs ch = (7, []) by
      have := flt_le hsp
      unfold chgd
      rw [if_neg (by simp [hc]), if_neg (by simp [hg]), if_neg (by omega), if_pos (by omega)])
    gi_wp2
    have hA5 := at_put hS0 D _ (.deferred none) hK rfl
    have hB5 := at_put hS1 D _ (.deferred none) hK rfl
    have k0 := hA5.cell 0
    have k1 := hB5.cell 0
    simp only [List.getElem?_cons_zero] at k0 k1
    refine ⟨by simp, .inl ⟨_, _, rfl, run_takeDeferred hK, ?_⟩⟩
    refine ⟨.tuple #[.slice none 0 0, .int .i64 7], by simp [results, Tryz.results43, go_sem, k0, k1], ⟨_, _, _, by rw [HCh.out], ?_, ?_, ?_⟩⟩
    · rw [HCh.out]
      exact OwnV.nil _
    · intro q hq
      simp [Value.ownBlock] at hq
    · exact hB.trans (below_put _ hK (by omega))
end ValQ
end Go.Proofs.YtpambhlhkmkagaaGreatDoor

namespace Go.Proofs.YtpambhlhkmkagaaGreatDoor
namespace ValR
open Go.RowKit
open BlkM WirM WirS WirA WirB ValA ValB ValC ValD ValE ValH ValP ValM ValN ValO ValQ
open Go.Proofs.YtpambhlhkmkagaaGreatDoor.Seq2
attribute [local go_sem] Oper.semAt_some

set_option maxRecDepth 10000 in
set_option maxHeartbeats 4000000 in
theorem change_bad1 (w : World) (a a2 : Option Addr) (n c n2 c2 : Nat) (vs ch : List Vd) (h : VIn w a n c vs) (h2 : VIn w a2 n2 c2 ch) (hn2 : n2 ≤ 1000000) (hc : chk vs ≠ 0) :
    Calls Tryz.prog 43 #[.slice a n c, .slice a2 n2 c2] w (ChP w vs ch) := by
  obtain ⟨W0, e0⟩ : ∃ X, X = (w.alloc (.cells #[.slice none 0 0] 22)).alloc (.cells #[.int .i64 0] 30) := ⟨_, rfl⟩
  have hb0 : Below w.heap.size w W0 := by rw [e0]; exact Below.alloc (Below.alloc (Below.refl _ _) (Nat.le_refl _) _) (by simp) _
  have HCh := WirS.hide (show chgd vs ch = (chk vs, []) from by unfold chgd; rw [if_pos (by simpa using hc)])
  have HC := WirS.hide (check_any W0 a n c vs (h.below hb0))
  have HG := WirS.hide (fun U (hU : Below w.heap.size w U) => checkChanges_any U a a2 n c n2 c2 vs ch (h.below hU) (h2.below hU) hn2)
  generalize chk vs = cd at *
  have hn0 : (cd == 0) = false := by simpa using hc
  have hn1 : (cd != 0) = true := by simpa using hc
  have E0 := WirS.hide e0
  have hS0 : At W0 w.heap.size 22 [.slice none 0 0] := by rw [e0]; exact (At.new w _ _).alloc _
  have hS1 : At W0 (w.heap.size + 1) 30 [.int .i64 0] := by
    rw [e0]
    have := At.new (w.alloc (.cells #[.slice none 0 0] 22)) 30 [.int .i64 0]
    rw [World.size_alloc] at this
    exact this
  clear e0 hc
  refine (callsIn_wide (n := 5)).1 ?_
  refine callsIn_of_wp_marks Tryz.func43 rfl trivial ?_
  simp only [Tryz.ntmps43, List.size_toArray, List.length_cons, List.length_nil, Nat.reduceAdd, Nat.reduceSub, Array.replicate_succ, Array.replicate_zero, List.push_toArray, List.append_toArray, List.nil_append, List.cons_append]
  gi_wp2_with fail
  refine ⟨trivial, ?_⟩
  rw [← E0.out]
  refine (callsIn_wide.2 HC.out).mono ?_
  rintro e w1 ⟨rfl, hb1⟩
  have HB1 := WirS.hide (hb0.trans (hb1.mono hb0.size))
  have hS0 := at_new hS0 hb1
  have hS1 := at_new hS1 hb1
  clear hb1 E0 HC
  skip
  have s0 := hS0.cell 0
  have s1 := hS1.cell 0
  have f0 := hS0.frozen 0
  have f1 := hS1.frozen 0
  simp only [List.getElem?_cons_zero] at s0 s1
  have HS0 := WirS.hide hS0
  have HS1 := WirS.hide hS1
  clear hS0 hS1
  gi_wp2
  have hA5 := (HS0.out.setCell 0 (.slice none 0 0)).setCell_other (X := w.heap.size + 1) (by omega) 0 (.int .i64 cd)
  have hB5 := (HS1.out.setCell_other (X := w.heap.size) (by omega) 0 (.slice none 0 0)).setCell 0 (.int .i64 cd)
  have k0 := hA5.cell 0
  have k1 := hB5.cell 0
  simp only [List.set_cons_zero, List.getElem?_cons_zero] at k0 k1
  refine ⟨.tuple #[.slice none 0 0, .int .i64 cd], by simp [results, Tryz.results43, go_sem, k0, k1], ⟨_, _, _, by rw [HCh.out], ?_, ?_, ?_⟩⟩
  · rw [HCh.out]
    exact OwnV.nil _
  · intro q hq
    simp [Value.ownBlock] at hq
  · exact ((HB1.out.setCell (p := ⟨w.heap.size, 0, none⟩) (Nat.le_refl _) _).setCell (p := ⟨w.heap.size + 1, 0, none⟩) (by show w.heap.size ≤ w.heap.size + 1; omega) _)
set_option maxRecDepth 10000 in
set_option maxHeartbeats 4000000 in
theorem change_bad2 (w : World) (a a2 : Option Addr) (n c n2 c2 : Nat) (vs ch : List Vd) (h : VIn w a n c vs) (h2 : VIn w a2 n2 c2 ch) (hn2 : n2 ≤ 1000000) (hc0 : chk vs = 0) (hc : chgE vs none ch ≠ 0) :
    Calls Tryz.prog 43 #[.slice a n c, .slice a2 n2 c2] w (ChP w vs ch) := by
  obtain ⟨W0, e0⟩ : ∃ X, X = (w.alloc (.cells #[.slice none 0 0] 22)).alloc (.cells #[.int .i64 0] 30) := ⟨_, rfl⟩
  have hb0 : Below w.heap.size w W0 := by rw [e0]; exact Below.alloc (Below.alloc (Below.refl _ _) (Nat.le_refl _) _) (by simp) _
  have HCh := WirS.hide (show chgd vs ch = (chgE vs none ch, []) from by unfold chgd; rw [if_neg (by simp [hc0]), if_pos (by simpa using hc)])
  have HC := WirS.hide (check_any W0 a n c vs (h.below hb0))
  have HG := WirS.hide (fun U (hU : Below w.heap.size w U) => checkChanges_any U a a2 n c n2 c2 vs ch (h.below hU) (h2.below hU) hn2)
  generalize chgE vs none ch = cd at *
  rw [hc0] at HC
  have hn0 : (cd == 0) = false := by simpa using hc
  have hn1 : (cd != 0) = true := by simpa using hc
  have E0 := WirS.hide e0
  have hS0 : At W0 w.heap.size 22 [.slice none 0 0] := by rw [e0]; exact (At.new w _ _).alloc _
  have hS1 : At W0 (w.heap.size + 1) 30 [.int .i64 0] := by
    rw [e0]
    have := At.new (w.alloc (.cells #[.slice none 0 0] 22)) 30 [.int .i64 0]
    rw [World.size_alloc] at this
    exact this
  clear e0 hc
  refine (callsIn_wide (n := 5)).1 ?_
  refine callsIn_of_wp_marks Tryz.func43 rfl trivial ?_
  simp only [Tryz.ntmps43, List.size_toArray, List.length_cons, List.length_nil, Nat.reduceAdd, Nat.reduceSub, Array.replicate_succ, Array.replicate_zero, List.push_toArray, List.append_toArray, List.nil_append, List.cons_append]
  gi_wp2_with fail
  refine ⟨trivial, ?_⟩
  rw [← E0.out]
  refine (callsIn_wide.2 HC.out).mono ?_
  rintro e w1 ⟨rfl, hb1⟩
  have HB1 := WirS.hide (hb0.trans (hb1.mono hb0.size))
  have hS0 := at_new hS0 hb1
  have hS1 := at_new hS1 hb1
  clear hb1 E0 HC
  gi_wp2_with fail
  refine ⟨trivial, ?_⟩
  refine (callsIn_wide.2 (HG.out _ HB1.out)).mono ?_
  rintro e w2 ⟨rfl, hb2⟩
  have HB1 := WirS.hide (HB1.out.trans (hb2.mono HB1.out.size))
  have hS0 := at_new hS0 hb2
  have hS1 := at_new hS1 hb2
  clear hb2 HG
  have s0 := hS0.cell 0
  have s1 := hS1.cell 0
  have f0 := hS0.frozen 0
  have f1 := hS1.frozen 0
  simp only [List.getElem?_cons_zero] at s0 s1
  have HS0 := WirS.hide hS0
  have HS1 := WirS.hide hS1
  clear hS0 hS1
  gi_wp2
  have hA5 := (HS0.out.setCell 0 (.slice none 0 0)).setCell_other (X := w.heap.size + 1) (by omega) 0 (.int .i64 cd)
  have hB5 := (HS1.out.setCell_other (X := w.heap.size) (by omega) 0 (.slice none 0 0)).setCell 0 (.int .i64 cd)
  have k0 := hA5.cell 0
  have k1 := hB5.cell 0
  simp only [List.set_cons_zero, List.getElem?_cons_zero] at k0 k1
  refine ⟨.tuple #[.slice none 0 0, .int .i64 cd], by simp [results, Tryz.results43, go_sem, k0, k1], ⟨_, _, _, by rw [HCh.out], ?_, ?_, ?_⟩⟩
  · rw [HCh.out]
    exact OwnV.nil _
  · intro q hq
    simp [Value.ownBlock] at hq
  · exact ((HB1.out.setCell (p := ⟨w.heap.size, 0, none⟩) (Nat.le_refl _) _).setCell (p := ⟨w.heap.size + 1, 0, none⟩) (by show w.heap.size ≤ w.heap.size + 1; omega) _)
theorem change_any (w : World) (a a2 : Option Addr) (n c n2 c2 : Nat) (vs ch : List Vd) (h : VIn w a n c vs) (h2 : VIn w a2 n2 c2 ch) (hn2 : n2 ≤ 1000000) :
    Calls Tryz.prog 43 #[.slice a n c, .slice a2 n2 c2] w (ChP w vs ch) := by
  by_cases hc : chk vs = 0
  · by_cases hg : chgE vs none ch = 0
    · exact change_ok w a a2 n c n2 c2 vs ch h h2 hn2 hc hg
    · exact change_bad2 w a a2 n c n2 c2 vs ch h h2 hn2 hc hg
  · exact change_bad1 w a a2 n c n2 c2 vs ch h h2 hn2 hc
end ValR
end Go.Proofs.YtpambhlhkmkagaaGreatDoor

namespace Go.Proofs.YtpambhlhkmkagaaGreatDoor
namespace ValZ
open Go.RowKit
open BlkM WirM WirS ValA ValB ValC ValD ValP ValJ ValK
open WirD (numB)
open WirJ (numO)
open WirO (rowO)
open WirRT (rng Fits)
open WirBC (num_oc row_oc)
open WirAA (num_code row_code)

/-- Where each validator's bytes begin. -/
def pos (vs : List Vd) (k : Nat) : Nat := (numB (vs.length : Int)).length + (items (vs.take k)).length
theorem enc_take (vs : List Vd) (r : List Int) (k : Nat) : (enc vs ++ r).take (pos vs k) = numB (vs.length : Int) ++ items (vs.take k) := by
  have e : enc vs ++ r = (numB (vs.length : Int) ++ items (vs.take k)) ++ (items (vs.drop k) ++ r) := by
    unfold enc
    rw [show items vs = items (vs.take k) ++ items (vs.drop k) by rw [← items_app, List.take_append_drop]]
    simp only [List.append_assoc]
  rw [e, List.take_left' (by unfold pos; rw [List.length_append])]
theorem pos_le (vs : List Vd) (r : List Int) (k : Nat) : pos vs k ≤ (enc vs ++ r).length := by
  have := congrArg List.length (enc_take vs r k)
  rw [List.length_take] at this
  have e : (numB (vs.length : Int) ++ items (vs.take k)).length = pos vs k := by unfold pos; rw [List.length_append]
  omega
theorem fits_key {vs : List Vd} {r : List Int} {k : Nat} {x : Vd} (h : vs[k]? = some x) : Fits (enc vs ++ r) (pos vs k) (pos vs k + 4) x.key ∧ Fits (enc vs ++ r) (pos vs k + 4) (pos vs (k + 1)) (numB x.p) := by
  have h1 := enc_take vs r k
  have h2 := enc_take vs r (k + 1)
  have hl := pos_le vs r (k + 1)
  have e : pos vs (k + 1) = pos vs k + 4 + (numB x.p).length := by
    unfold pos
    rw [items_succ h]
    simp only [List.length_append, Vd.key, List.length_cons, List.length_nil]
    omega
  have h3 : (enc vs ++ r).take (pos vs k + 4) = (enc vs ++ r).take (pos vs k) ++ x.key := by
    have := congrArg (List.take (pos vs k + 4)) h2
    rw [List.take_take, Nat.min_eq_left (by omega), items_succ h, ← List.append_assoc, ← List.append_assoc, ← h1] at this
    rw [this]
    have hlen : ((enc vs ++ r).take (pos vs k) ++ x.key).length = pos vs k + 4 := by
      rw [List.length_append, List.length_take, Nat.min_eq_left (pos_le vs r k)]
      rfl
    rw [List.take_left' hlen]
  refine ⟨⟨by omega, by omega, h3.symm⟩, ⟨by omega, hl, ?_⟩⟩
  rw [h3, h2, h1, items_succ h]
  simp only [List.append_assoc]
theorem fits_num (vs : List Vd) (r : List Int) : Fits (enc vs ++ r) 0 (pos vs 0) (numB (vs.length : Int)) := by
  refine ⟨Nat.zero_le _, pos_le vs r 0, ?_⟩
  rw [enc_take vs r 0]
  simp [items]
/-- What comes of the first bytes of a set's, cut off somewhere. -/
theorem itS_cut {vs : List Vd} {r : List Int} {cut : Nat} (hv : ∀ x ∈ vs, 0 ≤ x.p ∧ x.p < 9223372036854775808) (hok : ∀ x ∈ vs, x.ok) (hc : cut ≤ (enc vs ++ r).length) (h0 : pos vs 0 ≤ cut) : ∀ k, k ≤ vs.length →
    (pos vs k ≤ cut → itS ((enc vs ++ r).take cut) (.inr (pos vs 0)) k = (vs.take k, .inr (pos vs k))) ∧ (cut < pos vs k → ∃ q, (itS ((enc vs ++ r).take cut) (.inr (pos vs 0)) k).2 = .inl (6, q))
  | 0, _ => ⟨fun _ => by simp [itS], fun h => absurd h0 (by omega)⟩
  | k + 1, hk => by
    obtain ⟨i1, i2⟩ := itS_cut hv hok hc h0 k (by omega)
    have hx : vs[k]? = some (vs[k]'(by omega)) := List.getElem?_eq_getElem _
    obtain ⟨x, ex⟩ : ∃ x, vs[k]'(by omega) = x := ⟨_, rfl⟩
    rw [ex] at hx
    have hm : x ∈ vs := List.mem_of_getElem? hx
    obtain ⟨f1, f2⟩ := fits_key (r := r) hx
    have o1 := row_oc (n := 4) (show x.key.length = 4 from rfl) f1 hc
    have o2 := num_oc (hv x hm).1 (hv x hm).2 f2 hc
    have hle := f2.1
    have ht : vs.take (k + 1) = vs.take k ++ [x] := by rw [List.take_add_one, hx]; rfl
    have hmk : mkV x.key x.p = x := rfl
    rw [itS]
    simp only
    by_cases hp : pos vs k ≤ cut
    · rw [i1 hp]
      by_cases h4 : pos vs k + 4 ≤ cut
      · by_cases h5 : pos vs (k + 1) ≤ cut
        · refine ⟨fun _ => ?_, fun h => absurd h5 (by omega)⟩
          simp [rK, rN, o1.1 h4, o2.1 h5, ht, hmk]
        · refine ⟨fun h => absurd h h5, fun _ => ⟨((pos vs k + 4 : Nat) : Int), ?_⟩⟩
          simp [rK, rN, o1.1 h4, o2.2 (by omega)]
      · refine ⟨fun h => by omega, fun _ => ⟨(pos vs k : Int), ?_⟩⟩
        simp [rK, rN, o1.2 (by omega)]
    · obtain ⟨q, hq⟩ := i2 (by omega)
      refine ⟨fun h => by have := f1.1; omega, fun _ => ⟨q, ?_⟩⟩
      rw [hq]
      simp [rK, rN]
theorem pos_full (vs : List Vd) : pos vs vs.length = (enc vs).length := by
  unfold pos enc
  rw [List.take_length, List.length_append]
theorem pw_of {vs : List Vd} (h : chk vs = 0) : ∀ x ∈ vs, 0 ≤ x.p ∧ x.p < 9223372036854775808 := fun x hx => by
  have := ((chk_up vs).1 h).2.2.2 x hx
  omega
/-- A set's bytes, and more: decoded. -/
theorem dec_whole {vs : List Vd} (hc : chk vs = 0) (hok : ∀ x ∈ vs, x.ok) (r : List Int) : dec (enc vs ++ r) = if r = [] then ((0, 0), vs) else ((4, ((enc vs).length : Int)), []) := by
  have h64 := ((chk_up vs).1 hc).2.1
  have hn := (num_oc (n := (vs.length : Int)) (by omega) (by omega) (fits_num vs r) (Nat.le_refl _)).1 (pos_le vs r 0)
  have hi := (itS_cut (pw_of hc) hok (Nat.le_refl _) (pos_le vs r 0) vs.length (Nat.le_refl _)).1 (pos_le vs r vs.length)
  rw [List.take_length] at hn hi
  rw [List.take_length] at hi
  have e0 : (rN (enc vs ++ r) (.inr 0)).1 = (vs.length : Int) := by simp [rN, hn]
  have e1 : (rN (enc vs ++ r) (.inr 0)).2 = .inr (pos vs 0) := by simp [rN, hn]
  unfold dec
  rw [e0, e1, if_neg (by omega), Int.toNat_natCast, hi, pos_full]
  simp only
  by_cases hr : r = []
  · subst hr
    rw [if_pos rfl, List.append_nil, if_neg (by simp [endS]), if_neg (by simp [hc])]
  · have hlen : (enc vs).length < (enc vs ++ r).length := by
      have := List.length_pos_iff.2 hr
      rw [List.length_append]
      omega
    rw [if_neg hr]
    simp only [endS, hlen, if_true]
    rw [if_pos (by simp)]
end ValZ
end Go.Proofs.YtpambhlhkmkagaaGreatDoor

namespace Go.Proofs.YtpambhlhkmkagaaGreatDoor
namespace ValS
open Go.RowKit
open BlkM WirM WirS ValA ValB ValC ValD ValE ValF ValH ValP ValI ValJ ValK ValL ValM ValN ValQ ValR ValZ
open WirRT (rng)

theorem sCx {P : Program} {ops : Array Oper} {rest : List Oper} {o : Oper} {a : Act} {w : World} {Q : Exit → Act → World → Prop} {f : FuncId} {args : Array Value} {R : Ending → World → Prop} (hw : Region.wanted o (yielded ops a.tmps) = true) (hrun : (execOp a.eval o).run P w = .ok (.enter f args) w)
    (hc : Calls P f args w R) (h : ∀ e w', R e w' → ∃ v, e = .returned v ∧ wpList P ops Q rest (a.put o.dst v) w') : wpList P ops Q (o :: rest) a w :=
  stepW hw fun _ hK => by
    unfold Oper.wp
    rw [hrun, Oper.upon_enter]
    exact hc.mono (by
      intro e w' hq
      obtain ⟨v, rfl, hh⟩ := h e w' hq
      exact hK _ _ hh)
/-- Pairs as they lie. -/
def pcells (ps : List (Int × Int)) : List Value := ps.flatMap fun x => [.int .i64 x.1, .int .i64 x.2]
theorem pcells_get : ∀ (ps : List (Int × Int)) (j : Nat) (x : Int × Int), ps[j]? = some x → (pcells ps)[2 * j]? = some (.int .i64 x.1) ∧ (pcells ps)[2 * j + 1]? = some (.int .i64 x.2)
  | [], j, x, h => by simp at h
  | y :: l, 0, x, h => by
    simp at h
    subst h
    simp [pcells]
  | y :: l, j + 1, x, h => by
    have ih := pcells_get l j x (by simpa using h)
    have e : pcells (y :: l) = .int .i64 y.1 :: .int .i64 y.2 :: pcells l := by simp [pcells]
    rw [e, show 2 * (j + 1) = 2 * j + 1 + 1 by omega]
    simpa using ih
def okP (ps : List (Int × Int)) : Bool := ps.all fun x => decide (0 ≤ x.1 ∧ x.1 < 256 ∧ -9223372036854775808 ≤ x.2 ∧ x.2 < 9223372036854775808)
theorem k_of (U : World) (ps : List (Int × Int)) (hok : okP ps = true) (h30 : ps.length ≤ 30) :
    Calls Tryz.prog 19 #[.slice (some ⟨U.heap.size, 0, none⟩) (2 * ps.length) (2 * ps.length)] (U.alloc (.cells (pcells ps).toArray 3)) fun e w' => ∃ va vc, e = .returned (.slice va ps.length vc) ∧ VIn w' va ps.length vc (vof ps) ∧ Below U.heap.size U w' := by
  have hA := At.new U 3 (pcells ps)
  have hB : Below U.heap.size U (U.alloc (.cells (pcells ps).toArray 3)) := Below.alloc (Below.refl _ _) (Nat.le_refl _) _
  refine (of_any _ U.heap.size (2 * ps.length) (2 * ps.length) ps ⟨rfl, hA.lt, fun j x hx => ?_, fun x hx => ?_⟩ h30).mono ?_
  · rw [hA.cell, hA.cell]
    exact pcells_get ps j x hx
  · have := List.all_eq_true.1 hok x hx
    simpa using this
  · rintro e w' ⟨va, vn, vc, rfl, ho, _, hb⟩
    have hv := ho.vin
    have hl := hv.len
    rw [show (vof ps).length = ps.length by simp [vof]] at hl
    subst hl
    exact ⟨va, vc, rfl, hv, hB.trans (hb.mono hB.size)⟩
theorem k_chk (U : World) (va : Option Addr) (n vc : Nat) (vs : List Vd) (c : Int) (h : VIn U va n vc vs) (hc : chk vs = c) : Calls Tryz.prog 15 #[.slice va n vc] U fun e w' => e = .returned (.int .i64 c) ∧ Below U.heap.size U w' := by
  subst hc
  exact check_any U va n vc vs h
theorem k_total (U : World) (va : Option Addr) (n vc : Nat) (vs : List Vd) (t : Int) (h : VIn U va n vc vs) (hc : chk vs = 0) (ht : sumP vs = t) (h0 : 0 ≤ t) (h1 : t < 18446744073709551616) : Calls Tryz.prog 6 #[.slice va n vc] U fun e w' => e = .returned (.tuple #[.agg #[.int .u64 0, .int .u64 t], .int .i64 0]) ∧ Below U.heap.size U w' := by
  have := total_ok U va n vc vs h hc
  unfold tell at this
  rw [ht, show t / 18446744073709551616 = 0 by omega, show t % 18446744073709551616 = t by omega] at this
  exact this
theorem k_enc (U : World) (va : Option Addr) (n vc : Nat) (vs : List Vd) (bs : List Int) (m : Nat) (h : VIn U va n vc vs) (hc : chk vs = 0) (he : enc vs = bs) (hm : bs.length = m) : Calls Tryz.prog 10 #[.slice va n vc] U fun e w' => ∃ ba bc, e = .returned (.tuple #[.slice ba m bc, .int .i64 0]) ∧ BIn w' (.slice ba m bc) bs ∧ Below U.heap.size U w' := by
  subst he
  refine (encode_ok U va n vc vs h hc).mono ?_
  rintro e w' ⟨ba, bn, bc, rfl, ho, _, hb⟩
  have hbin := ho.bin
  obtain ⟨_, _, e2, _⟩ := id hbin
  cases e2
  rw [hm] at hbin ⊢
  exact ⟨_, _, rfl, hbin, hb⟩
theorem k_dec (U : World) (va : Option Addr) (n vc : Nat) (bs : List Int) (vs : List Vd) (m : Nat) (h : BIn U (.slice va n vc) bs) (hr : rng bs) (hn : n ≤ 1099511627776) (hd : dec bs = ((0, 0), vs)) (hm : vs.length = m) : Calls Tryz.prog 20 #[.slice va n vc] U fun e w' => ∃ la lc, e = .returned (.tuple #[.slice la m lc, .agg #[.int .i64 0, .int .i64 0]]) ∧ VIn w' la m lc vs ∧ Below U.heap.size U w' := by
  refine (decode_any U va n vc bs h hr hn).mono ?_
  rintro e w' ⟨la, ln, lc, rfl, ho, _, hb⟩
  rw [hd] at ho ⊢
  have hv := ho.vin
  have hl := hv.len
  rw [hm] at hl
  subst hl
  exact ⟨_, _, rfl, hv, hb⟩
theorem k_sb (w : World) (a b : Option Addr) (n c m d : Nat) (zs : List Int) (hx : BIn w (.slice a n c) zs) (hy : BIn w (.slice b m d) zs) (rz : rng zs) :
    Calls Tryz.prog 14 #[.slice a n c, .slice b m d] w fun e w' => e = .returned (.bool true) ∧ w = w' :=
  (WirU.same_any w a b n c m d zs zs hx hy rz rz).mono fun _ _ ⟨h1, h2⟩ => ⟨by rw [h1]; simp, h2⟩
set_option maxRecDepth 10000 in
theorem changes_any (w : World) (a a2 a3 : Option Addr) (n c n2 c2 n3 c3 : Nat) (vs ch ws : List Vd) (er : Int) (h : VIn w a n c vs) (h2 : VIn w a2 n2 c2 ch) (h3 : VIn w a3 n3 c3 ws) (hn2 : n2 ≤ 1000000) (he : chgd vs ch = (er, ws)) :
    Calls Tryz.prog 21 #[.slice a n c, .slice a2 n2 c2, .slice a3 n3 c3, .int .i64 er] w fun e w' => e = .returned (.bool true) ∧ Below w.heap.size w w' := by
  have hC : Calls Tryz.prog 43 #[.slice a n c, .slice a2 n2 c2] w fun e w' => ∃ va vc, e = .returned (.tuple #[.slice va n3 vc, .int .i64 er]) ∧ VIn w' va n3 vc ws ∧ Below w.heap.size w w' := by
    refine (change_any w a a2 n c n2 c2 vs ch h h2 hn2).mono ?_
    rintro e w' ⟨va, vn, vc, rfl, ho, _, hb⟩
    rw [he] at ho ⊢
    have hv := ho.vin
    have hl := hv.len
    rw [h3.len] at hl
    subst hl
    exact ⟨_, _, rfl, hv, hb⟩
  have HC := WirS.hide hC
  have H3 := WirS.hide h3
  have hq : (er == er) = true := by simp
  clear hC h h2 h3 he
  go_enter Tryz.func21, Tryz.ntmps21
  go_wp2_with (first | (go_at_call 43; refine (HC.out).mono ?_; rintro e u ⟨va, vc, rfl, hv, hb⟩; have HV := WirS.hide hv; have HB := WirS.hide hb; clear hv hb) | (go_at_call 18; refine (same_any _ _ _ _ _ _ _ HV.out (H3.out.below HB.out)).mono ?_; rintro e u2 ⟨rfl, hb⟩; have HB2 := WirS.hide hb; clear hb))
  go_ret
  exact ⟨rfl, HB.out.trans (HB2.out.mono HB.out.size)⟩
theorem chgd_ok {vs ch : List Vd} (h1 : chk vs = 0) (h2 : chgE vs none ch = 0) : chgd vs ch = if (flt (mrg vs ch)).length = 0 then (6, []) else if 64 < (flt (mrg vs ch)).length then (7, []) else (0, flt (mrg vs ch)) := by
  unfold chgd
  rw [if_neg (by simp [h1]), if_neg (by simp [h2])]
theorem ch_1 : chgd (vof [(1, 5), (2, 7)]) (vof [(1, 0), (3, 2)]) = (0, vof [(2, 7), (3, 2)]) := by
  rw [chgd_ok (by kernel_rfl) (by kernel_rfl)]
  simp [mrg, vof, Vd.rk, flt]
theorem enc_10 : enc (vof [(10, 5)]) = [1, 1, 0, 0, 0, 10, 1, 5] := by kernel_rfl
theorem dec_10 : dec [1, 1, 0, 0, 0, 10, 1, 5] = ((0, 0), vof [(10, 5)]) := by
  have := dec_whole (vs := vof [(10, 5)]) (by kernel_rfl) (fun x hx => by simp [vof] at hx; subst hx; exact ⟨by simp, by simp, by simp, by simp, by simp⟩) []
  rw [List.append_nil, enc_10, if_pos rfl] at this
  exact this
set_option maxRecDepth 10000 in
set_option maxHeartbeats 4000000 in
theorem awake_any (w : World) : Calls Tryz.prog 4 #[] w fun e w' => e = .returned (.bool true) ∧ Below w.heap.size w w' := by
  go_enter Tryz.func4, Tryz.ntmps4
  go_upto_region 1 with fail
  refine wp_region_lit ?_
  refine sV (.slice (some ⟨w.heap.size, 0, none⟩) 4 4) (w.alloc (.cells #[.int .i64 1, .int .i64 5, .int .i64 2, .int .i64 7] 3)) (by kernel_rfl) (by kernel_rfl) ?_
  simp only [Act.put, List.setIfInBounds_toArray, List.set_cons_succ, List.set_cons_zero]
  refine sCx (by kernel_rfl) (by kernel_rfl) (k_of w [(1, 5), (2, 7)] (by decide) (by decide)) ?_
  rintro e u1 ⟨va1, vc1, rfl, hv1, hb1⟩
  refine ⟨_, rfl, ?_⟩
  simp only [Act.put, List.setIfInBounds_toArray, List.set_cons_succ, List.set_cons_zero]
  refine sC (by kernel_rfl) (by kernel_rfl) (k_total u1 va1 2 vc1 _ 12 hv1 (by kernel_rfl) (by kernel_rfl) (by decide) (by decide)) ?_
  rintro u2 hb2
  simp only [Act.put, List.setIfInBounds_toArray, List.set_cons_succ, List.set_cons_zero]
  have hv1 := VIn.below hv1 hb2
  refine sV (.tuple #[.agg #[.int .u64 0, .int .u64 12], .int .i64 0]) (u2) (by kernel_rfl) (by kernel_rfl) ?_
  simp only [Act.put, List.setIfInBounds_toArray, List.set_cons_succ, List.set_cons_zero]
  have HBa := WirS.hide (hb1.trans (hb2.mono hb1.size))
  clear hb1 hb2 hv1
  go_upto_region 2 with fail
  obtain ⟨u3, e3⟩ : ∃ Y, Y = u2.alloc (.cells #[.int .u64 0, .int .u64 12] 29) := ⟨_, rfl⟩
  have hT1 : At u3 u2.heap.size 29 [.int .u64 0, .int .u64 12] := by rw [e3]; exact At.new u2 _ _
  have HBb := WirS.hide (show Below w.heap.size w u3 by rw [e3]; exact HBa.out.alloc HBa.out.size _)
  rw [← e3]
  clear e3
  generalize u2.heap.size = T1 at *
  refine wp_region_lit ?_
  refine sV (.slice (some ⟨u3.heap.size, 0, none⟩) 2 2) (u3.alloc (.cells #[.int .i64 10, .int .i64 5] 3)) (by kernel_rfl) (by kernel_rfl) ?_
  simp only [Act.put, List.setIfInBounds_toArray, List.set_cons_succ, List.set_cons_zero]
  refine sCx (by kernel_rfl) (by kernel_rfl) (k_of u3 [(10, 5)] (by decide) (by decide)) ?_
  rintro e u4 ⟨va4, vc4, rfl, hv4, hb4⟩
  refine ⟨_, rfl, ?_⟩
  simp only [Act.put, List.setIfInBounds_toArray, List.set_cons_succ, List.set_cons_zero]
  have hT1 := at_new hT1 hb4
  refine sCx (by kernel_rfl) (by kernel_rfl) (k_enc u4 va4 1 vc4 _ _ 8 hv4 (by kernel_rfl) enc_10 rfl) ?_
  rintro e u5 ⟨ba5, bc5, rfl, hn5, hb5⟩
  refine ⟨_, rfl, ?_⟩
  simp only [Act.put, List.setIfInBounds_toArray, List.set_cons_succ, List.set_cons_zero]
  have hT1 := at_new hT1 hb5
  have hv4 := VIn.below hv4 hb5
  refine sV (.tuple #[.slice ba5 8 bc5, .int .i64 0]) (u5) (by kernel_rfl) (by kernel_rfl) ?_
  simp only [Act.put, List.setIfInBounds_toArray, List.set_cons_succ, List.set_cons_zero]
  have HBc := WirS.hide (HBb.out.trans ((hb4.trans (hb5.mono hb4.size)).mono HBb.out.size))
  clear hb4 hb5 hv4
  go_upto_region 3 with fail
  refine wp_region_lit ?_
  refine sV (.slice ba5 8 bc5) (u5) (by kernel_rfl) (by kernel_rfl) ?_
  simp only [Act.put, List.setIfInBounds_toArray, List.set_cons_succ, List.set_cons_zero]
  refine sCx (by kernel_rfl) (by kernel_rfl) (k_dec u5 ba5 8 bc5 _ _ 1 hn5 (by decide) (by decide) dec_10 rfl) ?_
  rintro e u6 ⟨la6, lc6, rfl, hv6, hb6⟩
  refine ⟨_, rfl, ?_⟩
  simp only [Act.put, List.setIfInBounds_toArray, List.set_cons_succ, List.set_cons_zero]
  have hT1 := at_new hT1 hb6
  have hn5 := BIn.below hn5 hb6
  refine sV (.tuple #[.slice la6 1 lc6, .agg #[.int .i64 0, .int .i64 0]]) (u6) (by kernel_rfl) (by kernel_rfl) ?_
  simp only [Act.put, List.setIfInBounds_toArray, List.set_cons_succ, List.set_cons_zero]
  have HBd := WirS.hide (HBc.out.trans (hb6.mono HBc.out.size))
  have HBIN := WirS.hide hn5
  have HT1 := WirS.hide hT1
  have HV6 := WirS.hide hv6
  clear hb6 hn5 hT1 hv6
  go_upto_region 4 with fail
  obtain ⟨u7, e7⟩ : ∃ Y, Y = u6.alloc (.cells #[.int .i64 0, .int .i64 0] 49) := ⟨_, rfl⟩
  have h67 : Below u6.heap.size u6 u7 := by rw [e7]; exact Below.alloc (Below.refl _ _) (Nat.le_refl _) _
  have hT6 : At u7 u6.heap.size 49 [.int .i64 0, .int .i64 0] := by rw [e7]; exact At.new u6 _ _
  have HBe := WirS.hide (HBd.out.trans (h67.mono HBd.out.size))
  have hT1 := at_new HT1.out h67
  have hn5 := BIn.below HBIN.out h67
  have hv6 := VIn.below HV6.out h67
  rw [← e7]
  clear e7 h67
  generalize u6.heap.size = T6 at *
  refine wp_region_lit ?_
  refine sV (.slice (some ⟨u7.heap.size, 0, none⟩) 4 4) (u7.alloc (.cells #[.int .i64 1, .int .i64 5, .int .i64 2, .int .i64 7] 3)) (by kernel_rfl) (by kernel_rfl) ?_
  simp only [Act.put, List.setIfInBounds_toArray, List.set_cons_succ, List.set_cons_zero]
  refine sCx (by kernel_rfl) (by kernel_rfl) (k_of u7 [(1, 5), (2, 7)] (by decide) (by decide)) ?_
  rintro e u8 ⟨va8, vc8, rfl, hv8, hb8⟩
  refine ⟨_, rfl, ?_⟩
  simp only [Act.put, List.setIfInBounds_toArray, List.set_cons_succ, List.set_cons_zero]
  have hT1 := at_new hT1 hb8
  have hT6 := at_new hT6 hb8
  have hn5 := BIn.below hn5 hb8
  have hv6 := VIn.below hv6 hb8
  refine sC (by kernel_rfl) (by kernel_rfl) (k_chk u8 va8 2 vc8 _ 0 hv8 (by kernel_rfl)) ?_
  rintro u9 hb9
  simp only [Act.put, List.setIfInBounds_toArray, List.set_cons_succ, List.set_cons_zero]
  have hT1 := at_new hT1 hb9
  have hT6 := at_new hT6 hb9
  have hn5 := BIn.below hn5 hb9
  have hv6 := VIn.below hv6 hb9
  have hv8 := VIn.below hv8 hb9
  refine sV (.bool true) (u9) (by kernel_rfl) (by kernel_rfl) ?_
  simp only [Act.put, List.setIfInBounds_toArray, List.set_cons_succ, List.set_cons_zero]
  refine sV (.bool true) (u9) (by kernel_rfl) (by kernel_rfl) ?_
  simp only [Act.put, List.setIfInBounds_toArray, List.set_cons_succ, List.set_cons_zero]
  refine sL (by kernel_rfl) _ _ (by rfl) _ (by kernel_rfl) hT1 _ 2 Tryz.underlying29 rfl (by kernel_rfl) rfl ?_
  simp only [Act.put, List.setIfInBounds_toArray, List.set_cons_succ, List.set_cons_zero]
  refine sV (.agg #[.int .u64 0, .int .u64 12]) (u9) (by kernel_rfl) (by kernel_rfl) ?_
  simp only [Act.put, List.setIfInBounds_toArray, List.set_cons_succ, List.set_cons_zero]
  refine sV (.bool true) (u9) (by kernel_rfl) (by kernel_rfl) ?_
  simp only [Act.put, List.setIfInBounds_toArray, List.set_cons_succ, List.set_cons_zero]
  refine sV (.bool true) (u9) (by kernel_rfl) (by kernel_rfl) ?_
  simp only [Act.put, List.setIfInBounds_toArray, List.set_cons_succ, List.set_cons_zero]
  refine sV (.bool true) (u9) (by kernel_rfl) (by kernel_rfl) ?_
  simp only [Act.put, List.setIfInBounds_toArray, List.set_cons_succ, List.set_cons_zero]
  refine sV (.int .i64 0) (u9) (by kernel_rfl) (by kernel_rfl) ?_
  simp only [Act.put, List.setIfInBounds_toArray, List.set_cons_succ, List.set_cons_zero]
  refine sV (.bool true) (u9) (by kernel_rfl) (by kernel_rfl) ?_
  simp only [Act.put, List.setIfInBounds_toArray, List.set_cons_succ, List.set_cons_zero]
  refine sV (.bool true) (u9) (by kernel_rfl) (by kernel_rfl) ?_
  simp only [Act.put, List.setIfInBounds_toArray, List.set_cons_succ, List.set_cons_zero]
  refine sV (.bool true) (u9) (by kernel_rfl) (by kernel_rfl) ?_
  simp only [Act.put, List.setIfInBounds_toArray, List.set_cons_succ, List.set_cons_zero]
  refine sV (.int .i64 0) (u9) (by kernel_rfl) (by kernel_rfl) ?_
  simp only [Act.put, List.setIfInBounds_toArray, List.set_cons_succ, List.set_cons_zero]
  refine sV (.bool true) (u9) (by kernel_rfl) (by kernel_rfl) ?_
  simp only [Act.put, List.setIfInBounds_toArray, List.set_cons_succ, List.set_cons_zero]
  refine sV (.bool true) (u9) (by kernel_rfl) (by kernel_rfl) ?_
  simp only [Act.put, List.setIfInBounds_toArray, List.set_cons_succ, List.set_cons_zero]
  refine sV (.bool true) (u9) (by kernel_rfl) (by kernel_rfl) ?_
  simp only [Act.put, List.setIfInBounds_toArray, List.set_cons_succ, List.set_cons_zero]
  refine sV (.slice ba5 8 bc5) (u9) (by kernel_rfl) (by kernel_rfl) ?_
  simp only [Act.put, List.setIfInBounds_toArray, List.set_cons_succ, List.set_cons_zero]
  refine sV (.slice (some ⟨u9.heap.size, 0, none⟩) 8 8) (u9.alloc (.cells #[.int .u8 1, .int .u8 1, .int .u8 0, .int .u8 0, .int .u8 0, .int .u8 10, .int .u8 1, .int .u8 5] 5)) (by kernel_rfl) (by kernel_rfl) ?_
  simp only [Act.put, List.setIfInBounds_toArray, List.set_cons_succ, List.set_cons_zero]
  have hbl : Below u9.heap.size u9 (u9.alloc (.cells #[.int .u8 1, .int .u8 1, .int .u8 0, .int .u8 0, .int .u8 0, .int .u8 10, .int .u8 1, .int .u8 5] 5)) := Below.alloc (Below.refl _ _) (Nat.le_refl _) _
  have hSB := k_sb (u9.alloc (.cells #[.int .u8 1, .int .u8 1, .int .u8 0, .int .u8 0, .int .u8 0, .int .u8 10, .int .u8 1, .int .u8 5] 5)) ba5 (some ⟨u9.heap.size, 0, none⟩) 8 bc5 8 8 [1, 1, 0, 0, 0, 10, 1, 5] (BIn.below hn5 hbl) (BIn.new u9 5 [1, 1, 0, 0, 0, 10, 1, 5] 8 8 (0, 0) (by decide) (by decide)) (by decide)
  refine sC (by kernel_rfl) (by kernel_rfl) hSB ?_
  rintro u10 es10
  simp only [Act.put, List.setIfInBounds_toArray, List.set_cons_succ, List.set_cons_zero]
  have hb10 : Below u9.heap.size u9 u10 := by rw [← es10]; exact hbl
  have hT6 := at_new hT6 hb10
  have hv6 := VIn.below hv6 hb10
  clear es10 hbl hSB
  refine sV (.bool true) (u10) (by kernel_rfl) (by kernel_rfl) ?_
  simp only [Act.put, List.setIfInBounds_toArray, List.set_cons_succ, List.set_cons_zero]
  refine sV (.bool true) (u10) (by kernel_rfl) (by kernel_rfl) ?_
  simp only [Act.put, List.setIfInBounds_toArray, List.set_cons_succ, List.set_cons_zero]
  refine sL (by kernel_rfl) _ _ (by rfl) _ (by kernel_rfl) hT6 _ 2 Tryz.underlying49 rfl (by kernel_rfl) rfl ?_
  simp only [Act.put, List.setIfInBounds_toArray, List.set_cons_succ, List.set_cons_zero]
  refine sV (.agg #[.int .i64 0, .int .i64 0]) (u10) (by kernel_rfl) (by kernel_rfl) ?_
  simp only [Act.put, List.setIfInBounds_toArray, List.set_cons_succ, List.set_cons_zero]
  refine sV (.bool true) (u10) (by kernel_rfl) (by kernel_rfl) ?_
  simp only [Act.put, List.setIfInBounds_toArray, List.set_cons_succ, List.set_cons_zero]
  refine sV (.bool true) (u10) (by kernel_rfl) (by kernel_rfl) ?_
  simp only [Act.put, List.setIfInBounds_toArray, List.set_cons_succ, List.set_cons_zero]
  refine sV (.bool true) (u10) (by kernel_rfl) (by kernel_rfl) ?_
  simp only [Act.put, List.setIfInBounds_toArray, List.set_cons_succ, List.set_cons_zero]
  refine sV (.slice la6 1 lc6) (u10) (by kernel_rfl) (by kernel_rfl) ?_
  simp only [Act.put, List.setIfInBounds_toArray, List.set_cons_succ, List.set_cons_zero]
  refine sV (.slice (some ⟨u10.heap.size, 0, none⟩) 2 2) (u10.alloc (.cells #[.int .i64 10, .int .i64 5] 3)) (by kernel_rfl) (by kernel_rfl) ?_
  simp only [Act.put, List.setIfInBounds_toArray, List.set_cons_succ, List.set_cons_zero]
  refine sCx (by kernel_rfl) (by kernel_rfl) (k_of u10 [(10, 5)] (by decide) (by decide)) ?_
  rintro e u11 ⟨va11, vc11, rfl, hv11, hb11⟩
  refine ⟨_, rfl, ?_⟩
  simp only [Act.put, List.setIfInBounds_toArray, List.set_cons_succ, List.set_cons_zero]
  have hv6 := VIn.below hv6 hb11
  refine sC (by kernel_rfl) (by kernel_rfl) (same_any u11 la6 va11 1 lc6 vc11 _ hv6 hv11) ?_
  rintro u12 hb12
  simp only [Act.put, List.setIfInBounds_toArray, List.set_cons_succ, List.set_cons_zero]
  have hv6 := VIn.below hv6 hb12
  have hv11 := VIn.below hv11 hb12
  refine sV (.bool true) (u12) (by kernel_rfl) (by kernel_rfl) ?_
  simp only [Act.put, List.setIfInBounds_toArray, List.set_cons_succ, List.set_cons_zero]
  refine sV (.bool true) (u12) (by kernel_rfl) (by kernel_rfl) ?_
  simp only [Act.put, List.setIfInBounds_toArray, List.set_cons_succ, List.set_cons_zero]
  refine sV (.slice (some ⟨u12.heap.size, 0, none⟩) 4 4) (u12.alloc (.cells #[.int .i64 1, .int .i64 5, .int .i64 2, .int .i64 7] 3)) (by kernel_rfl) (by kernel_rfl) ?_
  simp only [Act.put, List.setIfInBounds_toArray, List.set_cons_succ, List.set_cons_zero]
  refine sCx (by kernel_rfl) (by kernel_rfl) (k_of u12 [(1, 5), (2, 7)] (by decide) (by decide)) ?_
  rintro e u13 ⟨va13, vc13, rfl, hv13, hb13⟩
  refine ⟨_, rfl, ?_⟩
  simp only [Act.put, List.setIfInBounds_toArray, List.set_cons_succ, List.set_cons_zero]
  refine sV (.slice (some ⟨u13.heap.size, 0, none⟩) 4 4) (u13.alloc (.cells #[.int .i64 1, .int .i64 0, .int .i64 3, .int .i64 2] 3)) (by kernel_rfl) (by kernel_rfl) ?_
  simp only [Act.put, List.setIfInBounds_toArray, List.set_cons_succ, List.set_cons_zero]
  refine sCx (by kernel_rfl) (by kernel_rfl) (k_of u13 [(1, 0), (3, 2)] (by decide) (by decide)) ?_
  rintro e u14 ⟨va14, vc14, rfl, hv14, hb14⟩
  refine ⟨_, rfl, ?_⟩
  simp only [Act.put, List.setIfInBounds_toArray, List.set_cons_succ, List.set_cons_zero]
  have hv13 := VIn.below hv13 hb14
  refine sV (.slice (some ⟨u14.heap.size, 0, none⟩) 4 4) (u14.alloc (.cells #[.int .i64 2, .int .i64 7, .int .i64 3, .int .i64 2] 3)) (by kernel_rfl) (by kernel_rfl) ?_
  simp only [Act.put, List.setIfInBounds_toArray, List.set_cons_succ, List.set_cons_zero]
  refine sCx (by kernel_rfl) (by kernel_rfl) (k_of u14 [(2, 7), (3, 2)] (by decide) (by decide)) ?_
  rintro e u15 ⟨va15, vc15, rfl, hv15, hb15⟩
  refine ⟨_, rfl, ?_⟩
  simp only [Act.put, List.setIfInBounds_toArray, List.set_cons_succ, List.set_cons_zero]
  have hv13 := VIn.below hv13 hb15
  have hv14 := VIn.below hv14 hb15
  refine sC (by kernel_rfl) (by kernel_rfl) (changes_any u15 va13 va14 va15 2 vc13 2 vc14 2 vc15 _ _ _ 0 hv13 hv14 hv15 (by decide) ch_1) ?_
  rintro u16 hb16
  simp only [Act.put, List.setIfInBounds_toArray, List.set_cons_succ, List.set_cons_zero]
  have hv13 := VIn.below hv13 hb16
  have hv14 := VIn.below hv14 hb16
  have hv15 := VIn.below hv15 hb16
  have HC8 := WirS.hide (HBe.out.trans (hb8.mono HBe.out.size))
  have HC9 := WirS.hide (HC8.out.trans (hb9.mono HC8.out.size))
  have HC10 := WirS.hide (HC9.out.trans (hb10.mono HC9.out.size))
  have HC11 := WirS.hide (HC10.out.trans (hb11.mono HC10.out.size))
  have HC12 := WirS.hide (HC11.out.trans (hb12.mono HC11.out.size))
  have HC13 := WirS.hide (HC12.out.trans (hb13.mono HC12.out.size))
  have HC14 := WirS.hide (HC13.out.trans (hb14.mono HC13.out.size))
  have HC15 := WirS.hide (HC14.out.trans (hb15.mono HC14.out.size))
  have HC16 := WirS.hide (HC15.out.trans (hb16.mono HC15.out.size))
  clear hb8 hb9 hb10 hb11 hb12 hb13 hb14 hb15 hb16
  go_wp2_with fail
  go_ret
  exact ⟨rfl, HC16.out⟩
end ValS
end Go.Proofs.YtpambhlhkmkagaaGreatDoor

namespace Go.Proofs.YtpambhlhkmkagaaGreatDoor
namespace ValBK
open Go.RowKit
open BlkM WirM WirS ValA ValB ValC ValD ValE ValH ValP ValI ValJ ValK ValL ValQ ValZ ValS
open WirRT (rng)
open WirE (NewB)
open WideF (wRes_ok)

theorem wide_eqx (x y : Int) (W : World) : (binOp .eql 29 (.agg #[.int .u64 x, .int .u64 y]) (.agg #[.int .u64 x, .int .u64 y])).run Tryz.prog W = .ok (.bool true) W := by
  have p0 : ∀ (x y : Int) (V : World), (part 27 #[.int .u64 x, .int .u64 y] 0).run Tryz.prog V = .ok (.int .u64 x) V := fun x y V => by kernel_rfl
  have p1 : ∀ (x y : Int) (V : World), (part 27 #[.int .u64 x, .int .u64 y] 1).run Tryz.prog V = .ok (.int .u64 y) V := fun x y V => by kernel_rfl
  have k1 : ∀ d : Nat, (Op.equalIn (d + 2) 29 (.agg #[.int .u64 x, .int .u64 y]) (.agg #[.int .u64 x, .int .u64 y])).run Tryz.prog W = .ok true W := fun d => by
    simp [Op.equalIn, run_underlying Tryz.underlying29, run_underlying Tryz.underlying27, p0, p1]
  simp only [binOp]
  simp [Op.equal, Op.maxDepth, k1 9998]
theorem enc_len_le {vs : List Vd} (hok : ∀ x ∈ vs, x.ok) (h : vs.length ≤ 64) : (enc vs).length ≤ 900 := by
  have h1 := numB_le (vs.length : Int) (by omega)
  have h2 := items_len vs hok
  unfold enc
  rw [List.length_append]
  omega
theorem dg_rng (n : Int) : ∀ k, rng (WirRT.dg n k)
  | 0 => fun x hx => by cases hx
  | k + 1 => fun x hx => by
    rw [WirRT.dg] at hx
    rcases List.mem_cons.1 hx with rfl | hx
    · omega
    · exact dg_rng n k x hx
theorem enc_rng {vs : List Vd} (hok : ∀ x ∈ vs, x.ok) (hc : chk vs = 0) : rng (enc vs) := by
  have hn : ∀ n : Int, 0 ≤ n → n < 18446744073709551616 → rng (WirD.numB n) := fun n h0 h1 => by
    rw [WirBC.numB_dg n h1]
    intro x hx
    rcases List.mem_cons.1 hx with rfl | hx
    · have := WirD.nb_le n h1
      omega
    · exact dg_rng n _ x hx
  have hp := pw_of hc
  have h64 := ((chk_up vs).1 hc).2.1
  intro x hx
  unfold enc at hx
  rcases List.mem_append.1 hx with hx | hx
  · exact hn _ (by omega) (by omega) x hx
  · simp only [items, List.mem_flatMap] at hx
    obtain ⟨v, hv, hx⟩ := hx
    rcases List.mem_append.1 hx with hx | hx
    · obtain ⟨h1, h2, h3, h4, _⟩ := hok v hv
      simp only [Vd.key, List.mem_cons, List.not_mem_nil, or_false] at hx
      rcases hx with rfl | rfl | rfl | rfl <;> assumption
    · have := hp v hv
      exact hn _ (by omega) (by omega) x hx
open WideG (sumTo)
end ValBK
end Go.Proofs.YtpambhlhkmkagaaGreatDoor

namespace Go.Proofs.YtpambhlhkmkagaaGreatDoor
namespace ValRA
open Go.RowKit
open BlkM WirM WirS ValA ValB ValC ValD ValE ValH ValP ValQ

def kd (x : Vd) (k : Nat) : Int := x.key.getD k 0
theorem kd_cell {W : World} {X : Nat} {x : Vd} (h : At W X 24 (kcl x)) (k : Nat) (hk : k < 4) : W.cell? ⟨X, k, none⟩ = some (.int .u8 (kd x k)) := by
  match k, hk with
  | 0, _ => exact h.cell 0
  | 1, _ => exact h.cell 1
  | 2, _ => exact h.cell 2
  | 3, _ => exact h.cell 3
  | n + 4, hk => exact absurd hk (by omega)
theorem rk_ne {x y : Vd} (hx : x.ok) (hy : y.ok) (k : Nat) (hk : k < 4) (h : ∀ j, j < k → kd x j = kd y j) (hne : kd x k ≠ kd y k) : decide (kd x k < kd y k) = decide (x.rk < y.rk) := by
  obtain ⟨a, b, c, d, _⟩ := hx
  obtain ⟨a', b', c', d', _⟩ := hy
  rw [decide_eq_decide]
  match k, hk with
  | 0, _ =>
    have h0 : x.a ≠ y.a := hne
    show x.a < y.a ↔ _
    unfold Vd.rk
    omega
  | 1, _ =>
    have e0 : x.a = y.a := h 0 (by omega)
    have h0 : x.b ≠ y.b := hne
    show x.b < y.b ↔ _
    unfold Vd.rk
    omega
  | 2, _ =>
    have e0 : x.a = y.a := h 0 (by omega)
    have e1 : x.b = y.b := h 1 (by omega)
    have h0 : x.c ≠ y.c := hne
    show x.c < y.c ↔ _
    unfold Vd.rk
    omega
  | 3, _ =>
    have e0 : x.a = y.a := h 0 (by omega)
    have e1 : x.b = y.b := h 1 (by omega)
    have e2 : x.c = y.c := h 2 (by omega)
    have h0 : x.d ≠ y.d := hne
    show x.d < y.d ↔ _
    unfold Vd.rk
    omega
  | n + 4, hk => exact absurd hk (by omega)
theorem rk_eq {x y : Vd} (h : ∀ j, j < 4 → kd x j = kd y j) : decide (x.rk < y.rk) = false := by
  have e0 : x.a = y.a := h 0 (by omega)
  have e1 : x.b = y.b := h 1 (by omega)
  have e2 : x.c = y.c := h 2 (by omega)
  have e3 : x.d = y.d := h 3 (by omega)
  rw [decide_eq_false_iff_not]
  unfold Vd.rk
  omega
def MidLs (w : World) (x y : Vd) (i : Value) (U : World) : Prop :=
  ∃ k : Nat, k ≤ 4 ∧ i = .int .i64 (k : Int) ∧ (∀ j, j < k → kd x j = kd y j) ∧ At U w.heap.size 24 (kcl x) ∧ At U (w.heap.size + 1) 24 (kcl y) ∧ Below w.heap.size w U
set_option maxRecDepth 10000 in
set_option maxHeartbeats 2000000 in
theorem less_any (w : World) (x y : Vd) (hx : x.ok) (hy : y.ok) :
    Calls Tryz.prog 37 #[.agg #[.int .u8 x.a, .int .u8 x.b, .int .u8 x.c, .int .u8 x.d], .agg #[.int .u8 y.a, .int .u8 y.b, .int .u8 y.c, .int .u8 y.d]] w fun e w' => e = .returned (.bool (decide (x.rk < y.rk))) ∧ Below w.heap.size w w' := by
  obtain ⟨W0, eW0⟩ : ∃ X, X = (w.alloc (.cells #[.int .u8 x.a, .int .u8 x.b, .int .u8 x.c, .int .u8 x.d] 24)).alloc (.cells #[.int .u8 y.a, .int .u8 y.b, .int .u8 y.c, .int .u8 y.d] 24) := ⟨_, rfl⟩
  have hA : At W0 w.heap.size 24 (kcl x) := by rw [eW0]; exact At.alloc (At.new w _ (kcl x)) _
  have hB : At W0 (w.heap.size + 1) 24 (kcl y) := by
    rw [eW0]
    have := At.new (w.alloc (.cells #[.int .u8 x.a, .int .u8 x.b, .int .u8 x.c, .int .u8 x.d] 24)) 24 (kcl y)
    rw [World.size_alloc] at this
    exact this
  have hb0 : Below w.heap.size w W0 := by rw [eW0]; exact Below.alloc (Below.alloc (Below.refl _ _) (Nat.le_refl _) _) (by simp) _
  have HST := WirS.hide (show MidLs w x y (.int .i64 0) W0 from ⟨0, by omega, rfl, fun j hj => by omega, hA, hB, hb0⟩)
  have E0 := WirS.hide eW0
  have HX := WirS.hide (And.intro hx hy)
  clear hA hB hb0 eW0
  go_enter Tryz.func37, Tryz.ntmps37
  go_upto_region 2 with fail
  rw [← E0.out]
  clear E0
  go_loopw [5] (fun i wr => MidLs w x y i wr) (fun i _ => 4 - (intOf i).toNat)
  case atStart => exact HST.out
  case round =>
    clear HST
    obtain ⟨k, hk, rfl, hE, hA, hB, hb⟩ := hrel
    have HB := WirS.hide hb
    by_cases hlt : k < 4
    · have c0 := kd_cell hA k hlt
      have c1 := kd_cell hB k hlt
      have hkl : (k : Int) < 4 := by omega
      have HA2 := WirS.hide hA
      have HB2 := WirS.hide hB
      by_cases hq : kd x k = kd y k
      · have HE := WirS.hide (show ∀ j, j < k + 1 → kd x j = kd y j from fun j hj => by
          rcases Nat.lt_or_ge j k with h | h
          · exact hE j h
          · obtain rfl : j = k := by omega
            exact hq)
        rw [← hq] at c1
        generalize kd x k = p at c0 c1
        clear hE hA hB hb hq
        go_wp2_with fail
        go_quiet (fail)
        go_wp2_with fail
        go_roundw
        case rel => exact ⟨k + 1, by omega, by go_num, HE.out, HA2.out.below (below_drewN (Below.refl _ _) _) HA2.out.lt, HB2.out.below (below_drewN (Below.refl _ _) _) HB2.out.lt, HB.out.trans ((below_drewN (Below.refl _ _) _).mono HB.out.size)⟩
        case measure => simp [intOf]; omega
      · have HD := WirS.hide (rk_ne HX.out.1 HX.out.2 k hlt hE hq)
        have hq1 : (kd x k == kd y k) = false := by simpa using hq
        have hq2 : (kd x k != kd y k) = true := by simpa using hq
        clear hE hA hB hb hq
        generalize kd x k = p at *
        generalize kd y k = q at *
        go_wp2_with fail
        go_quiet (fail)
        go_wp2_with fail
        go_quiet (fail)
        go_wp2_with fail
        go_ret
        exact ⟨by rw [← HD.out]; rfl, HB.out.trans ((below_drewN (below_drewN (Below.refl _ _) _) _).mono HB.out.size)⟩
    · obtain rfl : k = 4 := by omega
      have HR := WirS.hide (rk_eq hE)
      clear hE hA hB hb
      go_wp2_with fail
      go_ret
      exact ⟨by rw [HR.out]; rfl, HB.out⟩
def MidFr (w : World) (vs : List Vd) (kv : Vd) (n : Nat) (i : Value) (U : World) : Prop :=
  ∃ k : Nat, k ≤ n ∧ i = .int .i64 (k : Int) ∧ ixK kv.key vs 0 = ixK kv.key (vs.drop k) k ∧ At U w.heap.size 24 (kcl kv) ∧ Below w.heap.size w U
set_option maxRecDepth 10000 in
set_option maxHeartbeats 2000000 in
theorem rfind_any (w : World) (a : Option Addr) (n c : Nat) (vs : List Vd) (kv : Vd) (h : VIn w a n c vs) :
    Calls Tryz.prog 9 #[.slice a n c, .agg #[.int .u8 kv.a, .int .u8 kv.b, .int .u8 kv.c, .int .u8 kv.d]] w fun e w' => e = .returned (.tuple #[.int .i64 (if 0 ≤ ixK kv.key vs 0 then ixK kv.key vs 0 else 0), .bool (decide (0 ≤ ixK kv.key vs 0))]) ∧ Below w.heap.size w w' := by
  have hns : n ≤ 9223372036854775807 := Nat.le_trans h.cap h.small
  obtain ⟨W0, e0⟩ : ∃ X, X = w.alloc (.cells #[.int .u8 kv.a, .int .u8 kv.b, .int .u8 kv.c, .int .u8 kv.d] 24) := ⟨_, rfl⟩
  have hA : At W0 w.heap.size 24 (kcl kv) := by rw [e0]; exact At.new w _ _
  have hb0 : Below w.heap.size w W0 := by rw [e0]; exact Below.alloc (Below.refl _ _) (Nat.le_refl _) _
  have HST := WirS.hide (show MidFr w vs kv n (.int .i64 0) W0 from ⟨0, Nat.zero_le _, rfl, rfl, hA, hb0⟩)
  have E0 := WirS.hide e0
  have HL := WirS.hide h.len
  have H := WirS.hide h
  clear h e0 hA hb0
  generalize hr1 : (if 0 ≤ ixK kv.key vs 0 then ixK kv.key vs 0 else 0) = r1
  generalize hr2 : decide (0 ≤ ixK kv.key vs 0) = r2
  have HR1 := WirS.hide hr1
  have HR2 := WirS.hide hr2
  clear hr1 hr2
  go_enter Tryz.func9, Tryz.ntmps9
  go_upto_region 2 with fail
  rw [← E0.out]
  clear E0
  go_loopw [6] (fun i wr => MidFr w vs kv n i wr) (fun i _ => n - (intOf i).toNat)
  case atStart => exact HST.out
  case round =>
    clear HST
    obtain ⟨k, hk, rfl, hE, hA, hB⟩ := hrel
    by_cases hlt : k < n
    · obtain ⟨x, B, o, hx, hmem, rfl, hBl, hr⟩ := (H.out.below hB).cell hlt
      have r0 : wr.cell? ⟨B, o + k * 5, none⟩ = some (.int .u8 x.a) := hr 0 _ rfl
      have r1 : wr.cell? ⟨B, o + k * 5 + 1, none⟩ = some (.int .u8 x.b) := hr 1 _ rfl
      have r2 : wr.cell? ⟨B, o + k * 5 + 2, none⟩ = some (.int .u8 x.c) := hr 2 _ rfl
      have r3 : wr.cell? ⟨B, o + k * 5 + 3, none⟩ = some (.int .u8 x.d) := hr 3 _ rfl
      have r4 : wr.cell? ⟨B, o + k * 5 + 4, none⟩ = some (.int .i64 x.p) := hr 4 _ rfl
      have c0 : wr.cell? ⟨w.heap.size, 0, none⟩ = some (.int .u8 kv.a) := hA.cell 0
      have c1 : wr.cell? ⟨w.heap.size, 1, none⟩ = some (.int .u8 kv.b) := hA.cell 1
      have c2 : wr.cell? ⟨w.heap.size, 2, none⟩ = some (.int .u8 kv.c) := hA.cell 2
      have c3 : wr.cell? ⟨w.heap.size, 3, none⟩ = some (.int .u8 kv.d) := hA.cell 3
      have hkl : (k : Int) < (n : Int) := by omega
      rw [drop_get hx, ixK] at hE
      have HB := WirS.hide hB
      have HA := WirS.hide hA
      have hq := eqK4 x kv
      clear hr hx hB hmem hA
      by_cases hkk : x.key = kv.key
      · rw [if_pos hkk] at hE
        rw [decide_eq_true hkk] at hq
        have HE := WirS.hide hE
        have hk0 : (0 : Int) ≤ (k : Int) := by omega
        clear hE hkk
        go_wp2_with fail
        go_quiet (fail)
        go_wp2_with fail
        refine bodyPost_ret (v := .tuple #[.int .i64 (k : Int), .bool true]) (by simp [results, Tryz.results9, go_sem]) rfl ?_
        exact ⟨by rw [← HR1.out, ← HR2.out, HE.out, if_pos hk0, decide_eq_true hk0], HB.out.trans ((below_drewN (Below.refl _ _) _).mono HB.out.size)⟩
      · rw [if_neg hkk] at hE
        rw [decide_eq_false hkk] at hq
        have HE := WirS.hide hE
        clear hE hkk
        go_wp2_with fail
        go_quiet (fail)
        go_wp2_with fail
        go_roundw
        case rel => exact ⟨k + 1, by omega, by go_num, HE.out, HA.out.below (below_drewN (Below.refl _ _) _) HA.out.lt, HB.out.trans ((below_drewN (Below.refl _ _) _).mono HB.out.size)⟩
        case measure => simp [intOf]; omega
    · have hd : vs.drop k = [] := List.drop_eq_nil_of_le (by rw [HL.out]; omega)
      rw [hd, ixK] at hE
      have HE := WirS.hide hE
      have HB := WirS.hide hB
      have hkl : ¬ (k : Int) < (n : Int) := by omega
      clear hE hB hd hA
      go_wp2_with fail
      refine bodyPost_ret (v := .tuple #[.int .i64 0, .bool false]) (by simp [results, Tryz.results9, go_sem]) rfl ?_
      exact ⟨by rw [← HR1.out, ← HR2.out, HE.out]; rfl, HB.out⟩
end ValRA
end Go.Proofs.YtpambhlhkmkagaaGreatDoor

namespace Go.Proofs.YtpambhlhkmkagaaGreatDoor
namespace ValRB
open Go.RowKit
open BlkM WirM WirS ValA ValB ValC ValD ValE ValH ValP ValQ ValRA

def MidCr (w : World) (vs : List Vd) (n : Nat) (i : Value) (U : World) : Prop :=
  ∃ (k : Nat) (q : Option Vd), k ≤ n ∧ i = .int .i64 (k : Int) ∧ (k = 0 → q = none) ∧ (0 < k → q = vs[k - 1]?) ∧ rowE 1 none vs = rowE 1 q (vs.drop k) ∧ Below w.heap.size w U
set_option maxRecDepth 10000 in
set_option maxHeartbeats 4000000 in
theorem rcheck_any (w : World) (a : Option Addr) (n c : Nat) (vs : List Vd) (h : VIn w a n c vs) :
    Calls Tryz.prog 16 #[.slice a n c] w fun e w' => e = .returned (.int .i64 (chk vs)) ∧ Below w.heap.size w w' := by
  have hlen := h.len
  have H := WirS.hide h
  have HL := WirS.hide hlen
  by_cases h0 : n = 0
  · subst h0
    have hE : chk vs = 6 := by unfold chk; simp [hlen]
    rw [hE]
    clear h hlen hE
    go_enter Tryz.func16, Tryz.ntmps16
    go_wp2_with fail
    go_ret
    exact ⟨rfl, Below.refl _ _⟩
  have e1 : ((n : Int) == 0) = false := by simp; omega
  by_cases h64 : 64 < n
  · have hE : chk vs = 4 := by unfold chk; rw [hlen, if_neg h0, if_pos h64]
    rw [hE]
    have e2 : (64 : Int) < (n : Int) := by omega
    clear h hlen hE
    go_enter Tryz.func16, Tryz.ntmps16
    go_wp2_with fail
    go_ret
    exact ⟨rfl, Below.refl _ _⟩
  have hE : chk vs = rowE 1 none vs := by unfold chk; rw [hlen, if_neg h0, if_neg h64]
  rw [hE]
  obtain ⟨cd, hcd⟩ : ∃ cd, rowE 1 none vs = cd := ⟨_, rfl⟩
  rw [hcd]
  have HCD := WirS.hide hcd
  have e2 : ¬ (64 : Int) < (n : Int) := by omega
  have HST := WirS.hide (show MidCr w vs n (.int .i64 0) w from ⟨0, none, by omega, rfl, fun _ => rfl, fun h => absurd h (by omega), rfl, Below.refl _ _⟩)
  clear h hlen hE hcd
  go_enter Tryz.func16, Tryz.ntmps16
  go_wp2_with fail
  go_loopw [3] (fun i wr => MidCr w vs n i wr) (fun i _ => n - (intOf i).toNat)
  case atStart => exact HST.out
  case round =>
    clear HST
    obtain ⟨k, q, hk, rfl, hq0, hq1, hE, hB⟩ := hrel
    by_cases hlt : k < n
    · obtain ⟨x, B, o, hx, hmem, rfl, hBl, hr⟩ := (H.out.below hB).cell hlt
      have r0 : wr.cell? ⟨B, o + k * 5, none⟩ = some (.int .u8 x.a) := hr 0 _ rfl
      have r1 : wr.cell? ⟨B, o + k * 5 + 1, none⟩ = some (.int .u8 x.b) := hr 1 _ rfl
      have r2 : wr.cell? ⟨B, o + k * 5 + 2, none⟩ = some (.int .u8 x.c) := hr 2 _ rfl
      have r3 : wr.cell? ⟨B, o + k * 5 + 3, none⟩ = some (.int .u8 x.d) := hr 3 _ rfl
      have r4 : wr.cell? ⟨B, o + k * 5 + 4, none⟩ = some (.int .i64 x.p) := hr 4 _ rfl
      have hkl : (k : Int) < (n : Int) := by omega
      have hk63 : k ≤ 64 := by omega
      have HX := WirS.hide hx
      have HB := WirS.hide hB
      by_cases hk0 : k = 0
      · subst hk0
        obtain rfl : q = none := hq0 rfl
        rw [Nat.zero_mul, Nat.add_zero] at r4
        clear r0 r1 r2 r3
        have hlate : late none x = false := rfl
        by_cases hp1 : x.p < 1
        · have d1 : decide (x.p < 1) = true := by simpa using hp1
          have HE := WirS.hide (show rowE 1 none vs = 3 by rw [hE, drop_get hx, rowE, if_neg (by rw [nextE, hlate, if_neg (by simp), if_pos (.inl hp1)]; decide), nextE, hlate, if_neg (by simp), if_pos (.inl hp1)])
          clear hE hx hr hmem hB hq0 hq1 hlate
          go_wp2_with fail
          go_quiet (fail)
          go_wp2_with fail
          go_ret
          exact ⟨by rw [← HCD.out, HE.out]; rfl, HB.out.trans ((below_drewN (Below.refl _ _) _).mono HB.out.size)⟩
        · by_cases hp2 : 4611686018427387904 < x.p
          · have d1 : decide (x.p < 1) = false := by simpa using hp1
            have d2 : decide (4611686018427387904 < x.p) = true := by simpa using hp2
            have HE := WirS.hide (show rowE 1 none vs = 3 by rw [hE, drop_get hx, rowE, if_neg (by rw [nextE, hlate, if_neg (by simp), if_pos (.inr hp2)]; decide), nextE, hlate, if_neg (by simp), if_pos (.inr hp2)])
            clear hE hx hr hmem hB hq0 hq1 hlate
            go_wp2_with fail
            go_quiet (fail)
            go_wp2_with fail
            go_ret
            exact ⟨by rw [← HCD.out, HE.out]; rfl, HB.out.trans ((below_drewN (Below.refl _ _) _).mono HB.out.size)⟩
          · have d1 : decide (x.p < 1) = false := by simpa using hp1
            have d2 : decide (4611686018427387904 < x.p) = false := by simpa using hp2
            have HE := WirS.hide (show rowE 1 none vs = rowE 1 (some x) (vs.drop (0 + 1)) by rw [hE, drop_get hx, rowE, if_pos (by rw [nextE, hlate, if_neg (by simp), if_neg (by omega)])])
            clear hE hx hr hmem hB hq0 hq1 hlate
            go_wp2_with fail
            go_quiet (fail)
            go_wp2_with fail
            go_roundw
            case rel => exact ⟨0 + 1, some x, by omega, by first | rfl | go_num, fun h => absurd h (by omega), fun _ => by rw [Nat.add_sub_cancel]; exact HX.out.symm, HE.out, HB.out.trans ((below_drewN (Below.refl _ _) _).mono HB.out.size)⟩
            case measure => simp [intOf]; omega
      · obtain ⟨y, B', o', hy, hmemy, e, _, hs⟩ := (H.out.below hB).cell (i := k - 1) (by omega)
        cases e
        have hzz : decide ((0 : Int) < (k : Int)) = true := by simp; omega
        have hzn : 0 < k := by omega
        have hix : (0 : Int) ≤ (k : Int) - 1 := by omega
        have hkn : k - 1 < n := by omega
        have hkn1 : ((k - 1 : Nat) : Int) < (n : Int) := by omega
        have hk1 : (1 : Int) ≤ (k : Int) := by omega
        have hix2 : (k : Int) - 1 < (n : Int) := by omega
        have htn : ((k : Int) - 1).toNat = k - 1 := by omega
        have hwr : IntKind.i64.wrap ((k : Int) - 1) = (k : Int) - 1 := IntWalk.i64_in _ (by omega)
        obtain rfl : q = some y := by rw [hq1 (by omega), hy]
        have s0 : wr.cell? ⟨B, o + (k - 1) * 5, none⟩ = some (.int .u8 y.a) := hs 0 _ rfl
        have s1 : wr.cell? ⟨B, o + (k - 1) * 5 + 1, none⟩ = some (.int .u8 y.b) := hs 1 _ rfl
        have s2 : wr.cell? ⟨B, o + (k - 1) * 5 + 2, none⟩ = some (.int .u8 y.c) := hs 2 _ rfl
        have s3 : wr.cell? ⟨B, o + (k - 1) * 5 + 3, none⟩ = some (.int .u8 y.d) := hs 3 _ rfl
        have s4 : wr.cell? ⟨B, o + (k - 1) * 5 + 4, none⟩ = some (.int .i64 y.p) := hs 4 _ rfl
        have HLs := WirS.hide (fun U => less_any U y x (H.out.ok y hmemy) (H.out.ok x hmem))
        have HBL := WirS.hide hBl
        clear hs hy hmemy
        by_cases hl : y.rk < x.rk
        · have hlate : late (some y) x = false := by simp only [late, decide_eq_false_iff_not]; omega
          rw [decide_eq_true hl] at HLs
          by_cases hp1 : x.p < 1
          · have d1 : decide (x.p < 1) = true := by simpa using hp1
            have HE := WirS.hide (show rowE 1 none vs = 3 by rw [hE, drop_get hx, rowE, if_neg (by rw [nextE, hlate, if_neg (by simp), if_pos (.inl hp1)]; decide), nextE, hlate, if_neg (by simp), if_pos (.inl hp1)])
            clear hE hx hr hmem hB hq0 hq1 hlate
            go_upto_region 8 with fail
            go_region_held3 (fun w' => (w'.cell? ⟨B, o + (k - 1) * 5, none⟩ = some (.int .u8 y.a) ∧ w'.cell? ⟨B, o + (k - 1) * 5 + 1, none⟩ = some (.int .u8 y.b) ∧ w'.cell? ⟨B, o + (k - 1) * 5 + 2, none⟩ = some (.int .u8 y.c) ∧ w'.cell? ⟨B, o + (k - 1) * 5 + 3, none⟩ = some (.int .u8 y.d)) ∧ w'.cell? ⟨B, o + k * 5, none⟩ = some (.int .u8 x.a) ∧ w'.cell? ⟨B, o + k * 5 + 1, none⟩ = some (.int .u8 x.b) ∧ w'.cell? ⟨B, o + k * 5 + 2, none⟩ = some (.int .u8 x.c) ∧ w'.cell? ⟨B, o + k * 5 + 3, none⟩ = some (.int .u8 x.d)) (go_keep)
              (first | (go_at_call 37; refine (HLs.out _).mono ?_; rintro e w1 ⟨rfl, hb⟩; have hD1 : Below wr.heap.size wr w1 := (below_drewN (Below.refl _ _) 1).trans hb; have HD1 := WirS.hide hD1; have y0 := (hD1.cell (p := ⟨B, o + (k - 1) * 5, none⟩) HBL.out).trans s0; have y1 := (hD1.cell (p := ⟨B, o + (k - 1) * 5 + 1, none⟩) HBL.out).trans s1; have y2 := (hD1.cell (p := ⟨B, o + (k - 1) * 5 + 2, none⟩) HBL.out).trans s2; have y3 := (hD1.cell (p := ⟨B, o + (k - 1) * 5 + 3, none⟩) HBL.out).trans s3; have x0 := (hD1.cell (p := ⟨B, o + k * 5, none⟩) HBL.out).trans r0; have x1 := (hD1.cell (p := ⟨B, o + k * 5 + 1, none⟩) HBL.out).trans r1; have x2 := (hD1.cell (p := ⟨B, o + k * 5 + 2, none⟩) HBL.out).trans r2; have x3 := (hD1.cell (p := ⟨B, o + k * 5 + 3, none⟩) HBL.out).trans r3; have x4 := (hD1.cell (p := ⟨B, o + k * 5 + 4, none⟩) HBL.out).trans r4; clear hb hD1))
            go_wp2_with fail
            go_ret
            exact ⟨by rw [← HCD.out, HE.out]; rfl, HB.out.trans (HD1.out.mono HB.out.size)⟩
          · by_cases hp2 : 4611686018427387904 < x.p
            · have d1 : decide (x.p < 1) = false := by simpa using hp1
              have d2 : decide (4611686018427387904 < x.p) = true := by simpa using hp2
              have HE := WirS.hide (show rowE 1 none vs = 3 by rw [hE, drop_get hx, rowE, if_neg (by rw [nextE, hlate, if_neg (by simp), if_pos (.inr hp2)]; decide), nextE, hlate, if_neg (by simp), if_pos (.inr hp2)])
              clear hE hx hr hmem hB hq0 hq1 hlate
              go_upto_region 8 with fail
              go_region_held3 (fun w' => (w'.cell? ⟨B, o + (k - 1) * 5, none⟩ = some (.int .u8 y.a) ∧ w'.cell? ⟨B, o + (k - 1) * 5 + 1, none⟩ = some (.int .u8 y.b) ∧ w'.cell? ⟨B, o + (k - 1) * 5 + 2, none⟩ = some (.int .u8 y.c) ∧ w'.cell? ⟨B, o + (k - 1) * 5 + 3, none⟩ = some (.int .u8 y.d)) ∧ w'.cell? ⟨B, o + k * 5, none⟩ = some (.int .u8 x.a) ∧ w'.cell? ⟨B, o + k * 5 + 1, none⟩ = some (.int .u8 x.b) ∧ w'.cell? ⟨B, o + k * 5 + 2, none⟩ = some (.int .u8 x.c) ∧ w'.cell? ⟨B, o + k * 5 + 3, none⟩ = some (.int .u8 x.d)) (go_keep)
                (first | (go_at_call 37; refine (HLs.out _).mono ?_; rintro e w1 ⟨rfl, hb⟩; have hD1 : Below wr.heap.size wr w1 := (below_drewN (Below.refl _ _) 1).trans hb; have HD1 := WirS.hide hD1; have y0 := (hD1.cell (p := ⟨B, o + (k - 1) * 5, none⟩) HBL.out).trans s0; have y1 := (hD1.cell (p := ⟨B, o + (k - 1) * 5 + 1, none⟩) HBL.out).trans s1; have y2 := (hD1.cell (p := ⟨B, o + (k - 1) * 5 + 2, none⟩) HBL.out).trans s2; have y3 := (hD1.cell (p := ⟨B, o + (k - 1) * 5 + 3, none⟩) HBL.out).trans s3; have x0 := (hD1.cell (p := ⟨B, o + k * 5, none⟩) HBL.out).trans r0; have x1 := (hD1.cell (p := ⟨B, o + k * 5 + 1, none⟩) HBL.out).trans r1; have x2 := (hD1.cell (p := ⟨B, o + k * 5 + 2, none⟩) HBL.out).trans r2; have x3 := (hD1.cell (p := ⟨B, o + k * 5 + 3, none⟩) HBL.out).trans r3; have x4 := (hD1.cell (p := ⟨B, o + k * 5 + 4, none⟩) HBL.out).trans r4; clear hb hD1))
              go_wp2_with fail
              go_ret
              exact ⟨by rw [← HCD.out, HE.out]; rfl, HB.out.trans (HD1.out.mono HB.out.size)⟩
            · have d1 : decide (x.p < 1) = false := by simpa using hp1
              have d2 : decide (4611686018427387904 < x.p) = false := by simpa using hp2
              have HE := WirS.hide (show rowE 1 none vs = rowE 1 (some x) (vs.drop (k + 1)) by rw [hE, drop_get hx, rowE, if_pos (by rw [nextE, hlate, if_neg (by simp), if_neg (by omega)])])
              clear hE hx hr hmem hB hq0 hq1 hlate
              go_upto_region 8 with fail
              go_region_held3 (fun w' => (w'.cell? ⟨B, o + (k - 1) * 5, none⟩ = some (.int .u8 y.a) ∧ w'.cell? ⟨B, o + (k - 1) * 5 + 1, none⟩ = some (.int .u8 y.b) ∧ w'.cell? ⟨B, o + (k - 1) * 5 + 2, none⟩ = some (.int .u8 y.c) ∧ w'.cell? ⟨B, o + (k - 1) * 5 + 3, none⟩ = some (.int .u8 y.d)) ∧ w'.cell? ⟨B, o + k * 5, none⟩ = some (.int .u8 x.a) ∧ w'.cell? ⟨B, o + k * 5 + 1, none⟩ = some (.int .u8 x.b) ∧ w'.cell? ⟨B, o + k * 5 + 2, none⟩ = some (.int .u8 x.c) ∧ w'.cell? ⟨B, o + k * 5 + 3, none⟩ = some (.int .u8 x.d)) (go_keep)
                (first | (go_at_call 37; refine (HLs.out _).mono ?_; rintro e w1 ⟨rfl, hb⟩; have hD1 : Below wr.heap.size wr w1 := (below_drewN (Below.refl _ _) 1).trans hb; have HD1 := WirS.hide hD1; have y0 := (hD1.cell (p := ⟨B, o + (k - 1) * 5, none⟩) HBL.out).trans s0; have y1 := (hD1.cell (p := ⟨B, o + (k - 1) * 5 + 1, none⟩) HBL.out).trans s1; have y2 := (hD1.cell (p := ⟨B, o + (k - 1) * 5 + 2, none⟩) HBL.out).trans s2; have y3 := (hD1.cell (p := ⟨B, o + (k - 1) * 5 + 3, none⟩) HBL.out).trans s3; have x0 := (hD1.cell (p := ⟨B, o + k * 5, none⟩) HBL.out).trans r0; have x1 := (hD1.cell (p := ⟨B, o + k * 5 + 1, none⟩) HBL.out).trans r1; have x2 := (hD1.cell (p := ⟨B, o + k * 5 + 2, none⟩) HBL.out).trans r2; have x3 := (hD1.cell (p := ⟨B, o + k * 5 + 3, none⟩) HBL.out).trans r3; have x4 := (hD1.cell (p := ⟨B, o + k * 5 + 4, none⟩) HBL.out).trans r4; clear hb hD1))
              go_wp2_with fail
              go_roundw
              case rel => exact ⟨k + 1, some x, by omega, by first | rfl | go_num, fun h => absurd h (by omega), fun _ => by rw [Nat.add_sub_cancel]; exact HX.out.symm, HE.out, HB.out.trans (HD1.out.mono HB.out.size)⟩
              case measure => simp [intOf]; omega
        · have hlate : late (some y) x = true := by simp only [late, decide_eq_true_iff]; omega
          rw [decide_eq_false hl] at HLs
          have HE := WirS.hide (show rowE 1 none vs = 9 by rw [hE, drop_get hx, rowE, if_neg (by rw [nextE, hlate, if_pos rfl]; decide), nextE, hlate, if_pos rfl])
          clear hE hx hr hmem hB hq0 hq1 hlate
          go_upto_region 8 with fail
          go_region_held3 (fun w' => (w'.cell? ⟨B, o + (k - 1) * 5, none⟩ = some (.int .u8 y.a) ∧ w'.cell? ⟨B, o + (k - 1) * 5 + 1, none⟩ = some (.int .u8 y.b) ∧ w'.cell? ⟨B, o + (k - 1) * 5 + 2, none⟩ = some (.int .u8 y.c) ∧ w'.cell? ⟨B, o + (k - 1) * 5 + 3, none⟩ = some (.int .u8 y.d)) ∧ w'.cell? ⟨B, o + k * 5, none⟩ = some (.int .u8 x.a) ∧ w'.cell? ⟨B, o + k * 5 + 1, none⟩ = some (.int .u8 x.b) ∧ w'.cell? ⟨B, o + k * 5 + 2, none⟩ = some (.int .u8 x.c) ∧ w'.cell? ⟨B, o + k * 5 + 3, none⟩ = some (.int .u8 x.d)) (go_keep)
            (first | (go_at_call 37; refine (HLs.out _).mono ?_; rintro e w1 ⟨rfl, hb⟩; have hD1 : Below wr.heap.size wr w1 := (below_drewN (Below.refl _ _) 1).trans hb; have HD1 := WirS.hide hD1; have y0 := (hD1.cell (p := ⟨B, o + (k - 1) * 5, none⟩) HBL.out).trans s0; have y1 := (hD1.cell (p := ⟨B, o + (k - 1) * 5 + 1, none⟩) HBL.out).trans s1; have y2 := (hD1.cell (p := ⟨B, o + (k - 1) * 5 + 2, none⟩) HBL.out).trans s2; have y3 := (hD1.cell (p := ⟨B, o + (k - 1) * 5 + 3, none⟩) HBL.out).trans s3; have x0 := (hD1.cell (p := ⟨B, o + k * 5, none⟩) HBL.out).trans r0; have x1 := (hD1.cell (p := ⟨B, o + k * 5 + 1, none⟩) HBL.out).trans r1; have x2 := (hD1.cell (p := ⟨B, o + k * 5 + 2, none⟩) HBL.out).trans r2; have x3 := (hD1.cell (p := ⟨B, o + k * 5 + 3, none⟩) HBL.out).trans r3; have x4 := (hD1.cell (p := ⟨B, o + k * 5 + 4, none⟩) HBL.out).trans r4; clear hb hD1))
          go_wp2_with fail
          go_ret
          exact ⟨by rw [← HCD.out, HE.out]; rfl, HB.out.trans (HD1.out.mono HB.out.size)⟩
    · have hd : vs.drop k = [] := List.drop_eq_nil_of_le (by rw [HL.out]; omega)
      rw [hd, rowE] at hE
      have HE := WirS.hide hE
      have HB := WirS.hide hB
      have hkl : ¬ (k : Int) < (n : Int) := by omega
      clear hE hB hd hq0 hq1
      go_wp2_with fail
      go_ret
      exact ⟨by rw [← HCD.out, HE.out]; rfl, HB.out⟩
end ValRB
end Go.Proofs.YtpambhlhkmkagaaGreatDoor

