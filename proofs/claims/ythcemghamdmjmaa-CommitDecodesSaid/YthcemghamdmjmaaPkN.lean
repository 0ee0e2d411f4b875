/-
  ValSF, in one text.
-/
import Derived.Test.YthcemghamdmjmaaPkH
import Derived.Test.YthcemghamdmjmaaPkC
namespace Go.Proofs.Ythcemghamdmjmaa
namespace ValSF
open Go.RowKit
open BlkM WirM WirS
open WirH (sa bin_sub slR)
open WirJ (st conv_any)
open ValBK (slB sSh)

def more4 : List Int := [201, 202, 203, 204]
/-- Bytes that are lent: four more lie behind them. -/
structure Lent (w : World) (g n c : Nat) (bs : List Int) : Prop where
  len : bs.length = n
  cap : n + 4 ≤ c
  lt : g < w.heap.size
  own : WirM.Own w 5 (.slice (some ⟨g, 0, none⟩) (n + 4) c) (bs ++ more4)
theorem Lent.bin {w : World} {g n c : Nat} {bs : List Int} (h : Lent w g n c bs) : BIn w (.slice (some ⟨g, 0, none⟩) (n + 4) c) (bs ++ more4) := h.own.bin
/-- The bytes themselves are memory of their own, too. -/
theorem own_cut {w : World} {T : TypeId} {g m c n : Nat} {zs : List Int} (h : WirM.Own w T (.slice (some ⟨g, 0, none⟩) m c) zs) (hn : n ≤ m) : WirM.Own w T (.slice (some ⟨g, 0, none⟩) n c) (zs.take n) := by
  obtain ⟨hl, ⟨h0, _⟩ | ⟨g', cap, cur, e, hb, hg, h1, h2, h3, h4⟩⟩ := h
  · cases h0
  · obtain ⟨rfl, rfl, rfl⟩ : g = g' ∧ m = zs.length ∧ c = cap := by cases e; exact ⟨rfl, rfl, rfl⟩
    have hlt : (zs.take n).length = n := by rw [List.length_take]; omega
    refine ⟨by rw [b8_len]; omega, .inr ⟨g, c, cur, by rw [hlt], hb, hg, by omega, h2, h3, ?_⟩⟩
    have h5 : cur.toList.take (zs.length * 1) = b8 zs := h4
    rw [hlt]
    show cur.toList.take (n * 1) = b8 (zs.take n)
    rw [Nat.mul_one] at h5 ⊢
    have : cur.toList.take n = (cur.toList.take zs.length).take n := by rw [List.take_take, Nat.min_eq_left hn]
    rw [this, h5]
    simp [b8]
theorem Lent.ownHead {w : World} {g n c : Nat} {bs : List Int} (h : Lent w g n c bs) : WirM.Own w 5 (.slice (some ⟨g, 0, none⟩) n c) bs := by
  have := own_cut h.own (Nat.le_add_right n 4)
  rwa [List.take_left' h.len] at this
theorem Lent.below {w w' : World} {g n c : Nat} {bs : List Int} (h : Lent w g n c bs) (hb : Below w.heap.size w w') : Lent w' g n c bs := ⟨h.len, h.cap, Nat.lt_of_lt_of_le h.lt hb.size, h.own.fr (X := fun _ => False) (Fr.of_below hb) (fun _ _ h => h)⟩
theorem Lent.fr {X : Nat → Prop} {w w' : World} {g n c : Nat} {bs : List Int} (h : Lent w g n c bs) (hf : Fr X w w') (hX : ¬ X g) : Lent w' g n c bs := ⟨h.len, h.cap, Nat.lt_of_lt_of_le h.lt hf.size, h.own.fr hf (fun k hk => by simp [Value.ownBlock] at hk; subst hk; exact hX)⟩
theorem sa0 (g c : Nat) : sa (some ⟨g, 0, none⟩) c 0 = some ⟨g, 0, none⟩ := by
  unfold sa
  split
  · rfl
  · simp [Addr.add]
theorem Lent.head {w : World} {g n c : Nat} {bs : List Int} (h : Lent w g n c bs) : BIn w (.slice (some ⟨g, 0, none⟩) n c) bs := by
  have h1 := h.bin
  have h2 := h.len
  have h3 : (bs ++ more4).length = n + 4 := by rw [List.length_append, h2]; rfl
  have := bin_sub (at' := 0) (n := n) (by rw [h3]; exact h1) (by rw [h3]; omega)
  rw [sa0, List.drop_zero, List.take_left' h2] at this
  exact this
theorem Lent.tail {w : World} {g n c : Nat} {bs : List Int} (h : Lent w g n c bs) : BIn w (.slice (sa (some ⟨g, 0, none⟩) c n) 4 (c - n)) more4 := by
  have h1 := h.bin
  have h2 := h.len
  have h3 : (bs ++ more4).length = n + 4 := by rw [List.length_append, h2]; rfl
  have := bin_sub (at' := n) (n := 4) (by rw [h3]; exact h1) (by rw [h3]; omega)
  rw [List.drop_left' h2] at this
  exact this
theorem lent_any (w : World) (a : Option Addr) (n c : Nat) (bs : List Int) (h : BIn w (.slice a n c) bs) (hn : n ≤ 1000000) :
    Calls Try.prog 22 #[.slice a n c] w fun e w' => ∃ g c2, e = .returned (.slice (some ⟨g, 0, none⟩) n c2) ∧ Lent w' g n c2 bs ∧ w.heap.size ≤ g ∧ Below w.heap.size w w' := by
  have hnl : bs.length = n := by obtain ⟨_, _, e, _⟩ := h; cases e; rfl
  obtain ⟨i0, hi, hz0, hz1, hz2⟩ := info_parts (show (Try.prog.info? 5).map (fun i => (i.zero, i.size, i.bytes)) = some (some (.int .u8 0), 1, 1) by kernel_rfl)
  have hb : Below w.heap.size w (w.alloc (.cells #[] 5)) := Below.alloc (Below.refl _ _) (Nat.le_refl _) _
  have ownNew : WirM.Own (w.alloc (.cells #[] 5)) 5 (.slice (some ⟨w.heap.size, 0, none⟩) 0 0) [] := World.ownsRow_made w #[] 0 (Nat.zero_le _) (Nat.zero_le _) (by simp)
  obtain ⟨v1, u1, r1, o1, f1, n1⟩ := app_any (P := Try.prog) (w.alloc (.cells #[] 5)) 32 32 32 5 i0 _ Try.underlying32 hi hz0 hz1 hz2 rfl (.slice (some ⟨w.heap.size, 0, none⟩) 0 0) (.slice a n c) [] bs ownNew ((h.below hb).src Try.underlying32) (by simp; omega)
  rw [List.nil_append] at o1
  have hB1 := hb.trans (f1.below (B := w.heap.size) (by simp) (fun k hk hx => by simp [Value.ownBlock] at hx; omega))
  have hN1 : ∀ k, v1.ownBlock = some k → w.heap.size ≤ k := fun k hk => by
    rcases n1 k hk with hx | hx
    · simp [Value.ownBlock] at hx
      omega
    · simp at hx
      omega
  have hal : Below u1.heap.size u1 (u1.alloc (.cells #[.int .u8 201, .int .u8 202, .int .u8 203, .int .u8 204] 5)) := Below.alloc (Below.refl _ _) (Nat.le_refl _) _
  obtain ⟨v2, u2, r2, o2, f2, n2⟩ := app_any (P := Try.prog) (u1.alloc (.cells #[.int .u8 201, .int .u8 202, .int .u8 203, .int .u8 204] 5)) 32 32 32 5 i0 _ Try.underlying32 hi hz0 hz1 hz2 rfl v1 (.slice (some ⟨u1.heap.size, 0, none⟩) 4 4) bs more4 (o1.fr (X := fun _ => False) (Fr.of_below hal) (fun _ _ h => h)) ((BIn.new u1 5 more4 4 4 (0, 0) (by decide) (by decide)).src Try.underlying32) (by rw [hnl]; simp [more4]; omega)
  have hB2 : Below w.heap.size w u2 := (hB1.trans (hal.mono hB1.size)).trans (f2.below (by have := hB1.size; simp; omega) (fun k hk hx => by have := hN1 k hx; omega))
  have hl4 : (bs ++ more4).length = n + 4 := by rw [List.length_append, hnl]; rfl
  obtain ⟨g, c2, rfl⟩ : ∃ g c2, v2 = .slice (some ⟨g, 0, none⟩) (n + 4) c2 := by
    obtain ⟨_, ⟨e, h0⟩ | ⟨g, cap, cur, e, _⟩⟩ := o2
    · rw [hl4] at h0
      omega
    · exact ⟨g, cap, by rw [e, hl4]⟩
  have hg : w.heap.size ≤ g := by
    rcases n2 g rfl with hx | hx
    · exact hN1 g hx
    · have := hB1.size
      simp at hx
      omega
  have hbin := o2.bin
  have hcap : n + 4 ≤ c2 := by obtain ⟨_, _, e, hc, _⟩ := id hbin; simp only [Value.slice.injEq] at e; obtain ⟨_, h2, h3⟩ := e; omega
  have HLent := WirS.hide (show Lent u2 g n c2 bs from ⟨hnl, hcap, o2.lt g rfl, o2⟩)
  have HG := WirS.hide hg
  have HB := WirS.hide hB2
  obtain ⟨va, vn, vc, rfl⟩ : ∃ va vn vc, v1 = .slice va vn vc := by obtain ⟨va, vc, e, _⟩ := o1.bin; exact ⟨va, _, vc, e⟩
  have hsl := slB (some ⟨g, 0, none⟩) (n + 4) c2 n (by omega)
  rw [sa0, Nat.sub_zero] at hsl
  clear hb f1 n1 o1 h hi hz0 hz1 hz2 hnl ownNew hB1 hN1 hal o2 f2 n2 hB2 hl4 hg hbin hcap
  go_enter Try.func22, Try.ntmps22
  go_upto_region 1 with fail
  refine wp_region_lit ?_
  refine sV (.slice (some ⟨w.heap.size, 0, none⟩) 0 0) (w.alloc (.cells #[] 5)) (by kernel_rfl) (by kernel_rfl) ?_
  simp only [Act.put, List.setIfInBounds_toArray, List.set_cons_succ, List.set_cons_zero]
  refine sV (.slice a n c) (w.alloc (.cells #[] 5)) (by kernel_rfl) (by kernel_rfl) ?_
  simp only [Act.put, List.setIfInBounds_toArray, List.set_cons_succ, List.set_cons_zero]
  refine sA (by kernel_rfl) 32 32 _ _ (by rfl) (.slice (some ⟨w.heap.size, 0, none⟩) 0 0) (.slice a n c) (by kernel_rfl) (by kernel_rfl) (.slice va vn vc) (u1) r1 ?_
  simp only [Act.put, List.setIfInBounds_toArray, List.set_cons_succ, List.set_cons_zero]
  refine sV (.slice (some ⟨u1.heap.size, 0, none⟩) 4 4) (u1.alloc (.cells #[.int .u8 201, .int .u8 202, .int .u8 203, .int .u8 204] 5)) (by kernel_rfl) (by kernel_rfl) ?_
  simp only [Act.put, List.setIfInBounds_toArray, List.set_cons_succ, List.set_cons_zero]
  refine sA (by kernel_rfl) 32 32 _ _ (by rfl) (.slice va vn vc) (.slice (some ⟨u1.heap.size, 0, none⟩) 4 4) (by kernel_rfl) (by kernel_rfl) (.slice (some ⟨g, 0, none⟩) (n + 4) c2) (u2) r2 ?_
  simp only [Act.put, List.setIfInBounds_toArray, List.set_cons_succ, List.set_cons_zero]
  clear r1 r2
  go_wp2_with fail
  go_ret
  exact ⟨g, c2, rfl, HLent.out, HG.out, HB.out⟩
set_option maxRecDepth 10000 in
set_option maxHeartbeats 4000000 in
theorem kept_any (w : World) (g n c : Nat) (bs : List Int) (b : Option Addr) (d : Nat) (h : Lent w g n c bs) (hb : BIn w (.slice b n d) bs) (hn : n ≤ 1000000) :
    Calls Try.prog 25 #[.slice (some ⟨g, 0, none⟩) n c, .slice b n d] w fun e w' => e = .returned (.bool true) ∧ Below w.heap.size w w' := by
  have hcap := h.cap
  have hsl := slB (some ⟨g, 0, none⟩) n c c (Nat.le_refl _)
  rw [sa0, Nat.sub_zero] at hsl
  have hsl2 : ∀ Y, (Instr.sliceAt 32 (.slice (some ⟨g, 0, none⟩) c c) (some (.int .i64 (n : Int))) (some (.int .i64 ((n : Int) + 4))) none).run Try.prog Y = .ok (.slice (sa (some ⟨g, 0, none⟩) c n) 4 (c - n)) Y := fun Y => by
    have := slR (some ⟨g, 0, none⟩) c c n (n + 4) 4 rfl hcap (Nat.le_refl _) Y
    rwa [Int.natCast_add] at this
  have HS := WirS.hide (fun (U : World) (hU : Below w.heap.size w U) => (show (convert 32 9 (.slice (some ⟨g, 0, none⟩) n c)).run Try.prog U = .ok (.string (st bs)) U ∧ (convert 32 9 (.slice b n d)).run Try.prog U = .ok (.string (st bs)) U ∧ (convert 32 9 (.slice (sa (some ⟨g, 0, none⟩) c n) 4 (c - n))).run Try.prog U = .ok (.string (st more4)) U from ⟨conv_any U _ _ _ _ (h.head.below hU), conv_any U _ _ _ _ (hb.below hU), conv_any U _ _ _ _ (h.tail.below hU)⟩))
  have hnew : (convert 32 9 (.slice (some ⟨w.heap.size, 0, none⟩) 4 4)).run Try.prog ((w.alloc (.cells #[.int .u8 201, .int .u8 202, .int .u8 203, .int .u8 204] 5)).drew) = .ok (.string (st more4)) ((w.alloc (.cells #[.int .u8 201, .int .u8 202, .int .u8 203, .int .u8 204] 5)).drew) := conv_any _ _ 4 4 more4 ((BIn.new w 5 more4 4 4 (0, 0) (by decide) (by decide)).below (below_drewN (Below.refl _ _) 1))
  have hnew2 : (convert 32 9 (.slice (some ⟨w.heap.size, 0, none⟩) 4 4)).run Try.prog (w.alloc (.cells #[.int .u8 201, .int .u8 202, .int .u8 203, .int .u8 204] 5)) = .ok (.string (st more4)) (w.alloc (.cells #[.int .u8 201, .int .u8 202, .int .u8 203, .int .u8 204] 5)) := conv_any _ _ 4 4 more4 (BIn.new w 5 more4 4 4 (0, 0) (by decide) (by decide))
  have hnew3 : (convert 32 9 (.slice (some ⟨w.heap.size, 0, none⟩) 4 4)).run Try.prog (w.drew.alloc (.cells #[.int .u8 201, .int .u8 202, .int .u8 203, .int .u8 204] 5)) = .ok (.string (st more4)) (w.drew.alloc (.cells #[.int .u8 201, .int .u8 202, .int .u8 203, .int .u8 204] 5)) := conv_any _ _ 4 4 more4 (BIn.new w.drew 5 more4 4 4 (0, 0) (by decide) (by decide))
  obtain ⟨c1, c2, c3⟩ := HS.out w (Below.refl _ _)
  generalize st bs = s1 at *
  generalize st more4 = s4 at *
  generalize sa (some ⟨g, 0, none⟩) c n = sx at *
  have g1 : (n : Int) + 4 ≤ (c : Int) := by omega
  have g2 : decide ((n : Int) + 4 ≤ (c : Int)) = true := by simpa using g1
  have g3 : decide ((c : Int) < (n : Int) + 4) = false := by simp; omega
  have g4 : decide ((c : Int) ≥ (n : Int) + 4) = true := by simpa using g1
  have g5 : (s1.toList == s1.toList) = true := by simp
  have g6 : ((n : Int) == (n : Int)) = true := by simp
  have g7 : (s4.toList == s4.toList) = true := by simp
  have g8 : IntKind.i64.wrap ((n : Int) + 4) = (n : Int) + 4 := IntWalk.i64_in _ (by omega)
  clear h hb hcap
  go_enter Try.func25, Try.ntmps25
  go_upto_region 2 with fail
  refine wp_region_noPanic ?_
  refine wp_region_held_drew (S := fun w' => (convert 32 9 (.slice (some ⟨g, 0, none⟩) n c)).run Try.prog w' = .ok (.string s1) w' ∧ (convert 32 9 (.slice b n d)).run Try.prog w' = .ok (.string s1) w' ∧ (convert 32 9 (.slice sx 4 (c - n))).run Try.prog w' = .ok (.string s4) w') (by kernel_rfl) ?_ (fun hHeld => ?_)
  · (refine HS.out _ ?_; first | exact below_drewN (Below.refl _ _) 1 | exact below_drewN (Below.alloc (Below.refl _ _) (Nat.le_refl _) _) 1 | exact Below.alloc (Below.refl _ _) (Nat.le_refl _) _ | exact Below.alloc (below_drewN (Below.refl _ _) 1) (by simp) _)
  refine' wpAnyH_take (i := 0) (oi := _) (v := _) rfl (by kernel_rfl) (by kernel_rfl) (by kernel_rfl) (fun _ _ _ h => h) (Or.inl ⟨by kernel_rfl, ?hy⟩) (by assumption) ?rest2
  case hy =>
    intro w hSw
    try dsimp only at hSw
    go_simp
    try with_reducible rfl
  case rest2 =>
  try simp only [Act.put, List.setIfInBounds_toArray]
  refine' wpAnyH_take (i := 1) (oi := _) (v := _) rfl (by kernel_rfl) (by kernel_rfl) (by kernel_rfl) (fun _ _ _ h => h) (Or.inl ⟨by kernel_rfl, ?hy⟩) (by assumption) ?rest2
  case hy =>
    intro w hSw
    try dsimp only at hSw
    go_simp
    try with_reducible rfl
  case rest2 =>
  try simp only [Act.put]
  refine' wpAnyH_take (i := 2) (oi := _) (v := _) rfl (by kernel_rfl) (by kernel_rfl) (by kernel_rfl) (fun _ _ _ h => h) (Or.inl ⟨by kernel_rfl, ?hy⟩) (by assumption) ?rest2
  case hy =>
    intro w hSw
    try dsimp only at hSw
    go_simp
    try with_reducible rfl
  case rest2 =>
  try simp only [Act.put]
  refine' wpAnyH_take (i := 3) (oi := _) (v := _) rfl (by kernel_rfl) (by kernel_rfl) (by kernel_rfl) (fun _ _ _ h => h) (Or.inl ⟨by kernel_rfl, ?hy⟩) (by assumption) ?rest2
  case hy =>
    intro w hSw
    try dsimp only at hSw
    go_simp
    try with_reducible rfl
  case rest2 =>
  try simp only [Act.put]
  refine' wpAnyH_take (i := 4) (oi := _) (v := _) rfl (by kernel_rfl) (by kernel_rfl) (by kernel_rfl) (fun _ _ _ h => h) (Or.inl ⟨by kernel_rfl, ?hy⟩) (by assumption) ?rest2
  case hy =>
    intro w hSw
    try dsimp only at hSw
    go_simp
    try with_reducible rfl
  case rest2 =>
  try simp only [Act.put]
  refine' wpAnyH_take (i := 5) (oi := _) (v := _) rfl (by kernel_rfl) (by kernel_rfl) (by kernel_rfl) (fun _ _ _ h => h) (Or.inl ⟨by kernel_rfl, ?hy⟩) (by assumption) ?rest2
  case hy =>
    intro w hSw
    try dsimp only at hSw
    go_simp
    try with_reducible rfl
  case rest2 =>
  try simp only [Act.put]
  refine' wpAnyH_take (i := 6) (oi := _) (v := _) rfl (by kernel_rfl) (by kernel_rfl) (by kernel_rfl) (fun _ _ _ h => h) (Or.inl ⟨by kernel_rfl, ?hy⟩) (by assumption) ?rest2
  case hy =>
    intro w hSw
    try dsimp only at hSw
    go_simp
    try with_reducible rfl
  case rest2 =>
  try simp only [Act.put]
  refine' wpAnyH_take (i := 7) (oi := _) (v := _) rfl (by kernel_rfl) (by kernel_rfl) (by kernel_rfl) (fun _ _ _ h => h) (Or.inl ⟨by kernel_rfl, ?hy⟩) (by assumption) ?rest2
  case hy =>
    intro w hSw
    try dsimp only at hSw
    go_simp
    try with_reducible rfl
  case rest2 =>
  try simp only [Act.put]
  refine' wpAnyH_take (i := 8) (oi := _) (v := _) rfl (by kernel_rfl) (by kernel_rfl) (by kernel_rfl) (fun _ _ _ h => h) (Or.inl ⟨by kernel_rfl, ?hy⟩) (by assumption) ?rest2
  case hy =>
    intro w hSw
    try dsimp only at hSw
    go_simp
    try with_reducible rfl
  case rest2 =>
  try simp only [Act.put]
  refine' wpAnyH_take (i := 9) (oi := _) (v := _) rfl (by kernel_rfl) (by kernel_rfl) (by kernel_rfl) (fun _ _ _ h => h) (Or.inl ⟨by kernel_rfl, ?hy⟩) (by assumption) ?rest2
  case hy =>
    intro w hSw
    try dsimp only at hSw
    go_simp
    try with_reducible rfl
  case rest2 =>
  try simp only [Act.put]
  refine' wpAnyH_take (i := 10) (oi := _) (v := _) rfl (by kernel_rfl) (by kernel_rfl) (by kernel_rfl) (fun _ _ _ h => h) (Or.inl ⟨by kernel_rfl, ?hy⟩) (by assumption) ?rest2
  case hy =>
    intro w hSw
    try dsimp only at hSw
    go_simp
    try with_reducible rfl
  case rest2 =>
  try simp only [Act.put]
  refine' wpAnyH_take (i := 11) (oi := _) (v := _) rfl (by kernel_rfl) (by kernel_rfl) (by kernel_rfl) (fun _ _ _ h => h) (Or.inl ⟨by kernel_rfl, ?hy⟩) (by assumption) ?rest2
  case hy =>
    intro w hSw
    try dsimp only at hSw
    go_simp
    try with_reducible rfl
  case rest2 =>
  try simp only [Act.put]
  refine' wpAnyH_take (i := 12) (oi := _) (v := _) rfl (by kernel_rfl) (by kernel_rfl) (by kernel_rfl) (fun _ _ _ h => h) (Or.inl ⟨by kernel_rfl, ?hy⟩) (by assumption) ?rest2
  case hy =>
    intro w hSw
    try dsimp only at hSw
    go_simp
    try with_reducible rfl
  case rest2 =>
  try simp only [Act.put]
  refine' wpAnyH_take (i := 13) (oi := _) (v := _) rfl (by kernel_rfl) (by kernel_rfl) (by kernel_rfl) (fun _ _ _ h => h) (Or.inl ⟨by kernel_rfl, ?hy⟩) (by assumption) ?rest2
  case hy =>
    intro w hSw
    try dsimp only at hSw
    go_simp
    try with_reducible rfl
  case rest2 =>
  try simp only [Act.put]
  refine' wpAnyH_take (i := 14) (oi := _) (v := _) rfl (by kernel_rfl) (by kernel_rfl) (by kernel_rfl) (fun _ _ _ h => h) (Or.inl ⟨by kernel_rfl, ?hy⟩) (by assumption) ?rest2
  case hy =>
    intro w hSw
    try dsimp only at hSw
    go_simp
    try with_reducible rfl
  case rest2 =>
  try simp only [Act.put]
  refine' wpAnyH_take (i := 15) (oi := _) (v := _) rfl (by kernel_rfl) (by kernel_rfl) (by kernel_rfl) (fun _ _ _ h => h) (Or.inl ⟨by kernel_rfl, ?hy⟩) (by assumption) ?rest2
  case hy =>
    intro w hSw
    try dsimp only at hSw
    go_simp
    try with_reducible rfl
  case rest2 =>
  try simp only [Act.put]
  refine' wpAnyH_take (i := 16) (oi := _) (v := _) rfl (by kernel_rfl) (by kernel_rfl) (by kernel_rfl) (fun _ _ _ h => h) (Or.inl ⟨by kernel_rfl, ?hy⟩) (by assumption) ?rest2
  case hy =>
    intro w hSw
    try dsimp only at hSw
    go_simp
    try with_reducible rfl
  case rest2 =>
  try simp only [Act.put]
  refine' wpAnyH_take (i := 17) (oi := _) (v := _) rfl (by kernel_rfl) (by kernel_rfl) (by kernel_rfl) (fun _ _ _ h => h) (Or.inl ⟨by kernel_rfl, ?hy⟩) (by assumption) ?rest2
  case hy =>
    intro w hSw
    try dsimp only at hSw
    go_simp
    try with_reducible rfl
  case rest2 =>
  try simp only [Act.put]
  refine' wpAnyH_take (i := 18) (oi := _) (v := _) rfl (by kernel_rfl) (by kernel_rfl) (by kernel_rfl) (fun _ _ _ h => h) (Or.inl ⟨by kernel_rfl, ?hy⟩) (by assumption) ?rest2
  case hy =>
    intro w hSw
    try dsimp only at hSw
    go_simp
    try with_reducible rfl
  case rest2 =>
  try simp only [Act.put]
  refine' wpAnyH_take (i := 19) (oi := _) (v := _) rfl (by kernel_rfl) (by kernel_rfl) (by kernel_rfl) (fun _ _ _ h => h) (Or.inl ⟨by kernel_rfl, ?hy⟩) (by assumption) ?rest2
  case hy =>
    intro w hSw
    try dsimp only at hSw
    go_simp
    try with_reducible rfl
  case rest2 =>
  try simp only [Act.put]
  refine' wpAnyH_take (i := 20) (oi := _) (v := _) rfl (by kernel_rfl) (by kernel_rfl) (by kernel_rfl) (fun _ _ _ h => h) (Or.inl ⟨by kernel_rfl, ?hy⟩) (by assumption) ?rest2
  case hy =>
    intro w hSw
    try dsimp only at hSw
    go_simp
    try with_reducible rfl
  case rest2 =>
  try simp only [Act.put]
  refine' wpAnyH_take (i := 21) (oi := _) (v := _) rfl (by kernel_rfl) (by kernel_rfl) (by kernel_rfl) (fun _ _ _ h => h) (Or.inl ⟨by kernel_rfl, ?hy⟩) (by assumption) ?rest2
  case hy =>
    intro w hSw
    try dsimp only at hSw
    go_simp
    try with_reducible rfl
  case rest2 =>
  try simp only [Act.put]
  refine' wpAnyH_take (i := 22) (oi := _) (v := _) rfl (by kernel_rfl) (by kernel_rfl) (by kernel_rfl) (fun _ _ _ h => h) (Or.inl ⟨by kernel_rfl, ?hy⟩) (by assumption) ?rest2
  case hy =>
    intro w hSw
    try dsimp only at hSw
    go_simp
    try with_reducible rfl
  case rest2 =>
  try simp only [Act.put]
  refine' wpAnyH_take (i := 23) (oi := _) (v := _) rfl (by kernel_rfl) (by kernel_rfl) (by kernel_rfl) (fun _ _ _ h => h) (Or.inl ⟨by kernel_rfl, ?hy⟩) (by assumption) ?rest2
  case hy =>
    intro w hSw
    try dsimp only at hSw
    go_simp
    try with_reducible rfl
  case rest2 =>
  try simp only [Act.put]
  refine' wpAnyH_take (i := 24) (oi := _) (v := _) rfl (by kernel_rfl) (by kernel_rfl) (by kernel_rfl) (fun _ _ _ h => h) (Or.inl ⟨by kernel_rfl, ?hy⟩) (by assumption) ?rest2
  case hy =>
    intro w hSw
    try dsimp only at hSw
    go_simp
    try with_reducible rfl
  case rest2 =>
  try simp only [Act.put]
  refine' wpAnyH_take (i := 25) (oi := _) (v := _) rfl (by kernel_rfl) (by kernel_rfl) (by kernel_rfl) (fun _ _ _ h => h) (Or.inl ⟨by kernel_rfl, ?hy⟩) (by assumption) ?rest2
  case hy =>
    intro w hSw
    try dsimp only at hSw
    go_simp
    try with_reducible rfl
  case rest2 =>
  try simp only [Act.put]
  refine' wpAnyH_take (i := 26) (oi := _) (v := _) rfl (by kernel_rfl) (by kernel_rfl) (by kernel_rfl) (fun _ _ _ h => h) (Or.inl ⟨by kernel_rfl, ?hy⟩) (by assumption) ?rest2
  case hy =>
    intro w hSw
    try dsimp only at hSw
    go_simp
    try with_reducible rfl
  case rest2 =>
  try simp only [Act.put]
  refine' wpAnyH_take (i := 27) (oi := _) (v := _) rfl (by kernel_rfl) (by kernel_rfl) (by kernel_rfl) (fun _ _ _ h => h) (Or.inl ⟨by kernel_rfl, ?hy⟩) (by assumption) ?rest2
  case hy =>
    intro w hSw
    try dsimp only at hSw
    go_simp
    try with_reducible rfl
  case rest2 =>
  try simp only [Act.put]
  refine' wpAnyH_take (i := 28) (oi := _) (v := _) rfl (by kernel_rfl) (by kernel_rfl) (by kernel_rfl) (fun _ _ _ h => h) (Or.inl ⟨by kernel_rfl, ?hy⟩) (by assumption) ?rest2
  case hy =>
    intro w hSw
    try dsimp only at hSw
    go_simp
    try with_reducible rfl
  case rest2 =>
  try simp only [Act.put]
  refine wpAnyH_ready (rs := [29]) (by kernel_rfl) (by simp) ?_
  refine AllReadyH.cons rfl (fun K hK => ?_) AllReadyH.nil
  go_simp
  refine hK.out _ _ ?_ (fun hHeld => ?_)
  · (refine HS.out _ ?_; first | exact below_drewN (Below.refl _ _) 1 | exact below_drewN (Below.alloc (Below.refl _ _) (Nat.le_refl _) _) 1 | exact Below.alloc (Below.refl _ _) (Nat.le_refl _) _ | exact Below.alloc (below_drewN (Below.refl _ _) 1) (by simp) _)
  clear hK K
  try simp only [Act.put, List.setIfInBounds_toArray, List.set_cons_zero, List.set_cons_succ]
  refine wpAnyH_ready (rs := [30]) (by kernel_rfl) (by simp) ?_
  refine AllReadyH.cons rfl (fun K hK => ?_) AllReadyH.nil
  go_simp
  refine hK.out _ _ ?_ (fun hHeld => ?_)
  · (refine HS.out _ ?_; first | exact below_drewN (Below.refl _ _) 1 | exact below_drewN (Below.alloc (Below.refl _ _) (Nat.le_refl _) _) 1 | exact Below.alloc (Below.refl _ _) (Nat.le_refl _) _ | exact Below.alloc (below_drewN (Below.refl _ _) 1) (by simp) _)
  clear hK K
  try simp only [Act.put, List.setIfInBounds_toArray, List.set_cons_zero, List.set_cons_succ]
  refine' wpAnyH_take (i := 31) (oi := _) (v := _) rfl (by kernel_rfl) (by kernel_rfl) (by kernel_rfl) (fun _ _ _ h => h) (Or.inl ⟨by kernel_rfl, ?hy⟩) (by assumption) ?rest2
  case hy =>
    intro w hSw
    try dsimp only at hSw
    go_simp
    try with_reducible rfl
  case rest2 =>
  try simp only [List.getElem_toArray, List.getElem_cons_succ, List.getElem_cons_zero, Act.put, List.setIfInBounds_toArray, List.set_cons_zero, List.set_cons_succ]
  refine' wpAnyH_take (i := 32) (oi := _) (v := _) rfl (by kernel_rfl) (by kernel_rfl) (by kernel_rfl) (fun _ _ _ h => h) (Or.inl ⟨by kernel_rfl, ?hy⟩) (by assumption) ?rest2
  case hy =>
    intro w hSw
    try dsimp only at hSw
    go_simp
    try with_reducible rfl
  case rest2 =>
  try simp only [List.getElem_toArray, List.getElem_cons_succ, List.getElem_cons_zero, Act.put, List.setIfInBounds_toArray, List.set_cons_zero, List.set_cons_succ]
  refine' wpAnyH_take (i := 33) (oi := _) (v := _) rfl (by kernel_rfl) (by kernel_rfl) (by kernel_rfl) (fun _ _ _ h => h) (Or.inl ⟨by kernel_rfl, ?hy⟩) (by assumption) ?rest2
  case hy =>
    intro w hSw
    try dsimp only at hSw
    go_simp
    try with_reducible rfl
  case rest2 =>
  try simp only [List.getElem_toArray, List.getElem_cons_succ, List.getElem_cons_zero, Act.put, List.setIfInBounds_toArray, List.set_cons_zero, List.set_cons_succ]
  refine wpAnyH_done (by kernel_rfl) ?_ _
  refine NoPanic.normal ?_
  go_wp2_with fail
  go_ret
  exact ⟨rfl, (Below.alloc (Below.refl w.heap.size w) (Nat.le_refl _) _).drew⟩
end ValSF
end Go.Proofs.Ythcemghamdmjmaa

