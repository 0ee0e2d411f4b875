/-
  A range over an iterator that keeps variables of its own in memory: what a loop's body must keep, what an iterator's contract says, and the law that ties them. Over the wide fence.
-/
import Derived.Test.YthcemghamdmjmaaProg
import Derived.RangeFuncNested
import Derived.RangeFuncWrites
import Derived.RangeFuncBound
import Derived.RangeFuncCalls
import Derived.RangeFuncLeaves
import Derived.WalkKit
import Derived.Deep.Draws
import Derived.OwnWalkIn
import Derived.TacticsInMore
import Derived.LoopNIn
import Derived.LoopIn
namespace Go.Proofs.Ythcemghamdmjmaa
open Go.RowKit
namespace Seq2

/-- What is no cells, lies from block B on, and was there, lies as it lay. -/
def Keeps (B : Nat) (W W' : World) : Prop := KeepsFrom B W W'
theorem Keeps.refl (B : Nat) (W : World) : Keeps B W W := KeepsFrom.refl B W
theorem Keeps.trans {B : Nat} {U V W : World} (h : Keeps B U V) (k : Keeps B V W) : Keeps B U W := KeepsFrom.trans h k
theorem Keeps.setCell {B : Nat} {U W : World} (h : Keeps B U W) (p : Addr) (v : Value) : Keeps B U (W.setCell p v) := h.trans ((KeepsOthers.setCell W p v).from B)
theorem Keeps.alloc {B : Nat} {U W : World} (h : Keeps B U W) (o : Obj) : Keeps B U (W.alloc o) := h.trans ((KeepsOthers.alloc W o).from B)
theorem Keeps.below {B : Nat} {U V W : World} (h : Keeps B U V) (k : Below V.heap.size V W) : Keeps B U W :=
  h.trans ⟨k.size, fun i _ _ hi _ => (k.block i (Array.getElem?_eq_some_iff.1 hi).1).trans hi⟩

/-- An object put at B or beyond turns nothing below. -/
theorem below_put {B l : Nat} {W : World} {o : Obj} (o' : Obj) (hl : W.heap[l]? = some o) (hB : B ≤ l) : Below B W (W.putObj l o') :=
  (Below.refl B W).grown (grownBy_putObj' W l o') (by have := (Array.getElem?_eq_some_iff.1 hl).1; omega) (fun k e => by cases e; exact hB)

/-- The contract of an iterator: whatever J and Jx say of what lay when it was called, and whatever a round does that keeps what the iterator laid itself (and Kp), the values come in the order of S, or a part of them (Sp), a round having said no. -/
def Gives {α : Type} (n : Nat) (P : Program) (g : Nat) (lb : Array Value) (encs : α → Array Value) (Kp : World → World → Prop) (S Sp : List α → Prop) (w0 : World) : Prop :=
  ∀ (l : Nat) (J Jx : List α → World → Prop) (W : World), Below w0.heap.size w0 W →
    (∀ s A C, J s A → Below A.heap.size A C → J s C) →
    (∀ pre x U, J pre U → Sp (pre ++ [x]) → YieldAt Fence.wide (n - 1) P l (encs x) U fun e U' =>
      (e = .returned (.bool true) ∧ J (pre ++ [x]) U' ∧ Keeps W.heap.size U U' ∧ Kp U U') ∨ (e = .returned (.bool false) ∧ Jx (pre ++ [x]) U')) →
    J [] W →
    CallsIn Fence.wide n P g (#[.func (.yield l) #[] #[]] ++ lb) W fun e U => (∃ v, e = .returned v) ∧ ((∃ xs, S xs ∧ J xs U) ∨ (∃ pre, Sp pre ∧ Jx pre U))

/-- What new memory does not turn, nor the turn of what is no cells from block b on. -/
structure Stays {β : Type} (b : Nat) (I : β → World → Prop) : Prop where
  new : ∀ s A C, I s A → Below A.heap.size A C → I s C
  put : ∀ s U l (o o' : Obj), b ≤ l → U.heap[l]? = some o → o.isCells = false → I s U → I s (U.putObj l o')
/-- How a body may be left. -/
def Left {α : Type} (B : Nat) (Kp : World → World → Prop) (I : List α → World → Prop) (Ix : Code → List α → World → Prop) (xs : List α) (W : World) : Exit → Act → World → Prop
  | .normal, _, U => Keeps B W U ∧ Kp W U ∧ I xs U
  | .ret, _, U => Keeps B W U ∧ Ix .ret xs U
  | .exit id, _, U => Keeps B W U ∧ Ix (.exit id) xs U
  | .goto t, _, U => Keeps B W U ∧ Ix (.goto t) xs U
  | .panic _, _, _ => False
  | .outgrown, _, _ => False

variable {n : Nat} {P : Program}

set_option maxHeartbeats 400000 in
theorem range {α : Type} {g : Operand} {ps : Array Tmp} {assign body : Code} {Q : Exit → Act → World → Prop} {a : Act} {w : World}
    {gf : Nat} {lb : Array Value} (hg : a.eval g = .func (.func gf) #[] lb) (eg : ∀ args w, (callFunc gf args).run P w = .ok (.enter gf args) w)
    {encs : α → Array Value} {Kp : World → World → Prop} {S Sp : List α → Prop} {w0 : World} (hseq : Gives (n - 1) P gf lb encs Kp S Sp w0) (h1 : 1 ≤ n)
    (hKt : ∀ {A C D : World}, Kp A C → Kp C D → Kp A D) (hKb : ∀ (W : World) (l : Nat) (o o' : Obj), w.heap.size ≤ l → W.heap[l]? = some o → Kp W (W.putObj l o'))
    (hb0 : Below w0.heap.size w0 w) (hps : ∀ x, (encs x).size = ps.size)
    (I : List α → World → Prop) (Ix : Code → List α → World → Prop) (hI : Stays w.heap.size I) (hIx : ∀ c, Stays w.heap.size (Ix c))
    (h0 : I [] w) (Ax : α → Act → World → Prop) (hAx : ∀ x a' U l (o o' : Obj), w.heap.size ≤ l → U.heap[l]? = some o → o.isCells = false → Ax x a' U → Ax x a' (U.putObj l o'))
    (hassign : ∀ (l : Nat) (pre : List α) (x : α) (W : World) (K : Act → World → Prop), I pre W → Sp (pre ++ [x]) → (∀ a' W', Keeps w.heap.size W W' → Kp W W' → I pre W' → Ax x a' W' → K a' W') →
      assign.wpIn (Fence.wide.inRound l) (n - 1 - 1) P (Exit.then K (fun _ _ _ => False)) { tmps := (ps.zip (encs x)).foldl (fun t (p, v) => t.setIfInBounds p v) a.tmps, defers := [] } W)
    (hbody : ∀ (l : Nat) (pre : List α) (x : α) (a' : Act) (W : World), I pre W → Ax x a' W → Sp (pre ++ [x]) → w.heap.size + 2 ≤ W.heap.size → body.wpIn (Fence.wide.inRound l) (n - 1 - 1) P (Left w.heap.size Kp I Ix (pre ++ [x]) W) a' W)
    (hdone : ∀ (D : Nat) (xs : List α) (W : World), w.heap.size ≤ D → S xs → I xs W → W.heap[D]? = some (.deferred (some [])) → Q .normal { a with defers := { target := .collected D, args := #[] } :: a.defers } W)
    (hstop : ∀ (D : Nat) (c : Code) (pre : List α) (W : World), w.heap.size ≤ D → Sp pre → Ix c pre W → W.heap[D]? = some (.deferred (some [])) → c.wpIn Fence.wide n P Q { a with defers := { target := .collected D, args := #[] } :: a.defers } W) :
    (Code.rangeFunc g ps assign body).wpIn Fence.wide n P Q a w := by
  refine wpIn_rangeFunc fun fn hfn => ?_
  let recd : LoopState → Option Code → Obj := fun st pe => .loop { state := st, pending := pe, fn, tmps := a.tmps, params := ps, assign, body, defers := w.heap.size }
  obtain ⟨b, hb⟩ : ∃ b, b = w.heap.size := ⟨_, rfl⟩
  obtain ⟨W1, hW1⟩ : ∃ W1, W1 = (w.alloc (.deferred (some []))).alloc (recd .ready none) := ⟨_, rfl⟩
  have size1 : W1.heap.size = b + 2 := by rw [hW1, hb]; simp
  have below1 : Below b w W1 := by rw [hW1, hb]; exact ((Below.refl _ _).alloc (Nat.le_refl _) _).alloc (by simp) _
  have heapD : W1.heap[b]? = some (.deferred (some [])) := by
    rw [hW1, hb, Below.heap_alloc _ _ _ (by simp)]; exact World.alloc_heap_new w _
  have heapL : W1.heap[b + 1]? = some (recd .ready none) := by
    rw [hW1, hb]; have := World.alloc_heap_new (w.alloc (.deferred (some []))) (recd .ready none); rwa [World.size_alloc] at this
  have start : (Instr.enterLoop fn a.tmps ps assign body Fence.wide.round).run P w = .ok (b + 1, [{ target := .collected b, args := #[] }]) W1 := by
    rw [hW1, hb]; exact run_enterLoop_outer _ _ _ _ _
  have it := hseq (b + 1) (fun s U => I s U ∧ U.heap[b + 1]? = some (recd .ready none) ∧ U.heap[b]? = some (.deferred (some [])))
    (fun s U => ∃ c, Ix c s U ∧ U.heap[b + 1]? = some (recd .done (some c)) ∧ U.heap[b]? = some (.deferred (some []))) W1
    (hb0.trans (below1.mono (by rw [hb]; exact hb0.size)))
    (fun s A C h hB => by
      obtain ⟨h1, h2, h3⟩ := h
      exact ⟨hI.new s A C h1 hB, (hB.block _ (Array.getElem?_eq_some_iff.1 h2).1).trans h2, (hB.block _ (Array.getElem?_eq_some_iff.1 h3).1).trans h3⟩)
    ?round ⟨hI.new _ _ _ h0 (by rw [← hb]; exact below1), heapL, heapD⟩
  case round =>
    rintro pre x U ⟨hi, hl, hd⟩ hsp
    have hy := run_yield (P := P) (args := encs x) (r := { state := .ready, pending := none, fn, tmps := a.tmps, params := ps, assign, body, defers := w.heap.size }) hl (hps x)
    refine ⟨fn, _, assign, body, hy, roundIn_of_wpIn hfn (hassign _ pre x U _ hi hsp fun a' W' hkU hpU hi' hax => ?_)⟩
    have hl' : W'.heap[b + 1]? = some (recd .ready none) := hkU.same _ _ (by omega) hl rfl
    have hd' : W'.heap[b]? = some (.deferred (some [])) := hkU.same _ _ (by omega) hd rfl
    have hlt : b + 1 < W'.heap.size := (Array.getElem?_eq_some_iff.1 hl').1
    refine ⟨_, run_beginRound hl' rfl, ?_⟩
    obtain ⟨V, hV⟩ : ∃ V, V = W'.putObj (b + 1) (recd .busy none) := ⟨_, rfl⟩
    show body.wpIn _ _ P _ _ (W'.putObj (b + 1) (recd .busy none))
    rw [← hV]
    have lV : V.heap[b + 1]? = some (recd .busy none) := by rw [hV]; exact World.putObj_heap_same hlt
    have dV : V.heap[b]? = some (.deferred (some [])) := by rw [hV]; exact (World.putObj_heap_other (by omega)).trans hd'
    have oV : ∀ k, k ≠ b + 1 → V.heap[k]? = W'.heap[k]? := fun k hk => by rw [hV]; exact World.putObj_heap_other (by omega)
    have kV : Kp U V := hKt hpU (by rw [hV]; exact hKb _ _ _ _ (by omega) hl')
    have sV : V.heap.size = W'.heap.size := by rw [hV]; simp [World.putObj]
    have iV : I pre V := by rw [hV]; exact hI.put _ _ _ _ _ (by omega) hl' rfl hi'
    have xV : Ax x a' V := by rw [hV]; exact hAx _ _ _ _ _ _ (by omega) hl' rfl hax
    refine wpIn_mono (hbody _ pre x a' V iV xV hsp (by omega)) ?_
    have close : ∀ (jump : Option Code) (X : World), Keeps w.heap.size V X →
        ∃ Y, (Instr.endRound (b + 1) jump).run P X = .ok (.bool jump.isNone) Y ∧ Y = X.putObj (b + 1) (recd (if jump.isNone then .ready else .done) jump) ∧ Y.heap[b + 1]? = some (recd (if jump.isNone then .ready else .done) jump) ∧ Y.heap[b]? = some (.deferred (some [])) ∧
          Keeps W1.heap.size U Y ∧ (Kp V X → Kp U Y) ∧ X.heap[b + 1]? = some (recd .busy none) := fun jump X hX => by
      have lX : X.heap[b + 1]? = some (recd .busy none) := hX.same _ _ (by omega) lV rfl
      have dX : X.heap[b]? = some (.deferred (some [])) := hX.same _ _ (by omega) dV rfl
      refine ⟨X.putObj (b + 1) (recd (if jump.isNone then .ready else .done) jump), ?_, rfl, World.putObj_heap_same (Array.getElem?_eq_some_iff.1 lX).1, (World.putObj_heap_other (by omega)).trans dX, ⟨?_, ?_⟩, fun hk => hKt (hKt kV hk) (hKb _ _ _ _ (by omega) lX), lX⟩
      · exact run_endRound (P := P) jump (r := { state := .busy, pending := none, fn, tmps := a.tmps, params := ps, assign, body, defers := w.heap.size }) lX
      · have := hX.size; have := hkU.size; simp [World.putObj]; omega
      · intro k o hk hko hc
        rw [size1] at hk
        rw [World.putObj_heap_other (by omega)]
        exact hX.same k o (by omega) (by rw [oV k (by omega)]; exact hkU.same k o (by omega) hko hc) hc
    rintro e a3 X hp
    cases e with
    | normal =>
      obtain ⟨hk, hkp, hi3⟩ := hp
      obtain ⟨Y, hr, hB, h1, h2, h3, h4, h5⟩ := close none X hk
      exact ⟨_, _, hr, .inl ⟨rfl, ⟨by rw [hB]; exact hI.put _ _ _ _ _ (by omega) h5 rfl hi3, h1, h2⟩, h3, h4 hkp⟩⟩
    | ret =>
      obtain ⟨hk, hi3⟩ := hp
      obtain ⟨Y, hr, hB, h1, h2, _, _, h5⟩ := close (some .ret) X hk
      exact ⟨_, _, hr, .inr ⟨rfl, .ret, by rw [hB]; exact (hIx _).put _ _ _ _ _ (by omega) h5 rfl hi3, h1, h2⟩⟩
    | exit id =>
      obtain ⟨hk, hi3⟩ := hp
      obtain ⟨Y, hr, hB, h1, h2, _, _, h5⟩ := close (some (.exit id)) X hk
      exact ⟨_, _, hr, .inr ⟨rfl, .exit id, by rw [hB]; exact (hIx _).put _ _ _ _ _ (by omega) h5 rfl hi3, h1, h2⟩⟩
    | goto t =>
      obtain ⟨hk, hi3⟩ := hp
      obtain ⟨Y, hr, hB, h1, h2, _, _, h5⟩ := close (some (.goto t)) X hk
      exact ⟨_, _, hr, .inr ⟨rfl, .goto t, by rw [hB]; exact (hIx _).put _ _ _ _ _ (by omega) h5 rfl hi3, h1, h2⟩⟩
    | panic ch => exact hp.elim
    | outgrown => exact hp.elim
  refine ⟨b + 1, _, W1, { target := .fn (.func gf) lb, args := #[.func (.yield (b + 1)) #[] #[]] }, W1, gf, #[.func (.yield (b + 1)) #[] #[]] ++ lb, W1, start, ?_, ?_, ?_, ?_, ?_⟩
  · simp only [resolve, hg]
    simp [go_sem]
  · intro f' _
    trivial
  · simp [invoke, go_sem, eg]
  · intro _
    exact h1
  refine it.mono ?_
  · rintro e U ⟨⟨v, rfl⟩, (⟨xs, hS, hi, hl, hd⟩ | ⟨pre, hSp, c, hi, hl, hd⟩)⟩
    · exact ⟨none, _, run_endLoop (P := P) hl (by simp), hdone b xs _ (by omega) hS (hI.put _ _ _ _ _ (by omega) hl rfl hi) ((World.putObj_heap_other (by omega)).trans hd)⟩
    · exact ⟨some c, _, run_endLoop (P := P) hl (by simp), hstop b c pre _ (by omega) hSp ((hIx _).put _ _ _ _ _ (by omega) hl rfl hi) ((World.putObj_heap_other (by omega)).trans hd)⟩

end Seq2
end Go.Proofs.Ythcemghamdmjmaa
