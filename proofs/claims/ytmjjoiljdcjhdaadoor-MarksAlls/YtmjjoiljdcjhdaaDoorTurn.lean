/- A range over a function whose iterator keeps state of its own in one captured variable (block Bb), and tells each round what it hands on (G): the caller's law. Nothing of the program. -/
import Derived.RangeFuncNested
import Derived.RangeFuncBound
import Derived.RangeFuncCalls
import Derived.RangeFuncLeaves
namespace Go.Proofs.YtmjjoiljdcjhdaaDoor
set_option linter.unusedVariables false
open Go Go.RowKit

variable {F : Fence} {n : Nat} {P : Program}

/-- The iterator's contract: whatever the caller holds on to abides new blocks and turns of block Bb; each round is told G. -/
def SeqTurn {α : Type} (F : Fence) (n : Nat) (P : Program) (g : Nat) (lb : Array Value) (encs : α → Array Value) (Bb : Nat) (Kp : World → World → Prop) (G : List α → α → World → Prop) (S Sp : List α → Prop) (w : World) : Prop :=
  ∀ (l : Nat) (J Jx : List α → World → Prop) (W : World), Below w.heap.size w W →
    (∀ s A B, J s A → A.grownBy B (some Bb) → J s B) → (∀ s A B, Jx s A → A.grownBy B (some Bb) → Jx s B) →
    (∀ pre x W1, J pre W1 → G pre x W1 → YieldAt F (n - 1) P l (encs x) W1 fun e W' =>
      (e = .returned (.bool true) ∧ J (pre ++ [x]) W' ∧ Kp W1 W') ∨ (e = .returned (.bool false) ∧ Jx (pre ++ [x]) W')) →
    J [] W →
    CallsIn F n P g (#[.func (.yield l) #[] #[]] ++ lb) W fun e W' => (∃ v, e = .returned v) ∧ ((∃ xs, S xs ∧ J xs W') ∨ (∃ pre, Sp pre ∧ Jx pre W'))

/-- The two blocks of a loop's books: its record, in that state, and the block for its rounds' deferred calls. -/
def Books (d : Nat) (o : Obj) (W : World) : Prop := W.heap[d + 1]? = some o ∧ W.heap[d]? = some (.deferred (some []))

theorem Books.lt {d : Nat} {o : Obj} {W : World} (h : Books d o W) : d + 1 < W.heap.size := (Array.getElem?_eq_some_iff.1 h.1).1

theorem Books.put {d : Nat} {o : Obj} {W : World} (h : Books d o W) (o' : Obj) : Books d o' (W.putObj (d + 1) o') :=
  ⟨World.putObj_heap_same h.lt, (World.putObj_heap_other (by omega)).trans h.2⟩

theorem Books.turn {d Bb : Nat} {o : Obj} {A B : World} (h : Books d o A) (hg : A.grownBy B (some Bb)) (hb : Bb < d) : Books d o B := by
  have h1 := h.lt
  refine ⟨(hg.block _ h1 ?_).trans h.1, (hg.block _ (by omega) ?_).trans h.2⟩
  · intro e; cases e; omega
  · intro e; cases e; omega

theorem Books.keeps {d : Nat} {r : Loop} {A B : World} (h : Books d (.loop r) A) (hk : KeepsFrom d A B) : Books d (.loop r) B :=
  ⟨hk.same _ _ (by omega) h.1 rfl, hk.same _ _ (Nat.le_refl _) h.2 rfl⟩

theorem Books.new (w : World) (r : Loop) : Books w.heap.size (.loop r) ((w.alloc (.deferred (some []))).alloc (.loop r)) := by
  refine ⟨?_, (Below.heap_alloc _ _ _ (by simp)).trans (World.alloc_heap_new w _)⟩
  have := World.alloc_heap_new (w.alloc (.deferred (some []))) (.loop r)
  rwa [World.size_alloc] at this

set_option maxHeartbeats 1000000 in
/-- The caller's law. -/
theorem range_turn {α : Type} {g : Operand} {ps : Array Tmp} {assign body : Code} {Q : Exit → Act → World → Prop} {a : Act} {w : World}
    (hro : F.round = none) (h1 : 1 ≤ n) {gf : Nat} {lb : Array Value} (hg : a.eval g = .func (.func gf) #[] lb) (hFg : F.fn gf) (eg : ∀ args w, (callFunc gf args).run P w = .ok (.enter gf args) w)
    {encs : α → Array Value} {Bb : Nat} {Kp : World → World → Prop} {G : List α → α → World → Prop} {S Sp : List α → Prop} {w0 : World} (hseq : SeqTurn F (n - 1) P gf lb encs Bb Kp G S Sp w0) (hBb : Bb < w.heap.size)
    (hKt : ∀ {A B C : World}, Kp A B → Kp B C → Kp A C) (hKb : ∀ (W : World) (l : Nat) (o o' : Obj), w.heap.size ≤ l → W.heap[l]? = some o → o.isCells = false → Kp W (W.putObj l o')) (hb0 : Below w0.heap.size w0 w) (hps : ∀ x, (encs x).size = ps.size)
    (I : List α → World → Prop) (Ix : Code → List α → World → Prop) (hI : OwnFrom w.heap.size I) (hIx : ∀ c, OwnFrom w.heap.size (Ix c)) (hIt : ∀ s A B, I s A → A.grownBy B (some Bb) → I s B) (hIxt : ∀ c s A B, Ix c s A → A.grownBy B (some Bb) → Ix c s B)
    (h0 : I [] w) (Ax : List α → α → Act → World → Prop) (hAx : ∀ pre x a', OwnFrom w.heap.size (fun (_ : Unit) W => Ax pre x a' W))
    (hassign : ∀ (l : Nat) (pre : List α) (x : α) (W : World) (K : Act → World → Prop), I pre W → G pre x W → (∀ a' W', KeepsFrom w.heap.size W W' → Kp W W' → I pre W' → Ax pre x a' W' → K a' W') →
      assign.wpIn (F.inRound l) (n - 1 - 1) P (Exit.then K (fun _ _ _ => False)) { tmps := (ps.zip (encs x)).foldl (fun t (p, v) => t.setIfInBounds p v) a.tmps, defers := [] } W)
    (hbody : ∀ (l : Nat) (pre : List α) (x : α) (a' : Act) (W : World), I pre W → Ax pre x a' W → body.wpIn (F.inRound l) (n - 1 - 1) P (ownPostG w.heap.size Kp I Ix (pre ++ [x]) W) a' W)
    (hdone : ∀ (D : Nat) (xs : List α) (W : World), w.heap.size ≤ D → S xs → I xs W → W.heap[D]? = some (.deferred (some [])) → Q .normal { a with defers := { target := .collected D, args := #[] } :: a.defers } W)
    (hstop : ∀ (D : Nat) (c : Code) (pre : List α) (W : World), w.heap.size ≤ D → Sp pre → Ix c pre W → W.heap[D]? = some (.deferred (some [])) → c.wpIn F n P Q { a with defers := { target := .collected D, args := #[] } :: a.defers } W) :
    (Code.rangeFunc g ps assign body).wpIn F n P Q a w := by
  refine wpIn_rangeFunc fun fn hfn => ?_
  let R : LoopState → Option Code → Loop := fun st pe => { state := st, pending := pe, fn, tmps := a.tmps, params := ps, assign, body, defers := w.heap.size }
  have hN := Books.new w (R .ready none)
  have hI1 : I [] ((w.alloc (.deferred (some []))).alloc (.loop (R .ready none))) := hI.alloc _ (hI.alloc _ h0)
  have hb1 : Below w0.heap.size w0 ((w.alloc (.deferred (some []))).alloc (.loop (R .ready none))) :=
    hb0.trans ((((Below.refl _ w).alloc (Nat.le_refl _) _).alloc (by simp) _).mono hb0.size)
  have hent : (Instr.enterLoop fn a.tmps ps assign body F.round).run P w = .ok (w.heap.size + 1, [{ target := .collected w.heap.size, args := #[] }]) ((w.alloc (.deferred (some []))).alloc (.loop (R .ready none))) := by
    rw [hro]
    exact run_enterLoop_outer _ _ _ _ _
  generalize (w.alloc (.deferred (some []))).alloc (.loop (R .ready none)) = W1 at *
  refine ⟨_, _, W1, { target := .fn (.func gf) lb, args := #[.func (.yield (w.heap.size + 1)) #[] #[]] }, W1, gf, #[.func (.yield (w.heap.size + 1)) #[] #[]] ++ lb, W1, hent, ?_, ?_, ?_, fun _ => h1, ?_⟩
  · simp only [resolve, hg]
    simp [go_sem]
  · intro f' hf'
    simp [Target.leads] at hf'
    subst hf'
    exact hFg
  · simp [invoke, go_sem, eg]
  · refine (hseq (w.heap.size + 1) (fun pre W => I pre W ∧ Books w.heap.size (.loop (R .ready none)) W) (fun pre W => ∃ c, Ix c pre W ∧ Books w.heap.size (.loop (R .done (some c))) W) W1 hb1
      (fun s A B hs hg' => ⟨hIt s A B hs.1 hg', hs.2.turn hg' hBb⟩) (fun s A B hs hg' => by obtain ⟨c, hc, hk⟩ := hs; exact ⟨c, hIxt c s A B hc hg', hk.turn hg' hBb⟩) ?_ ⟨hI1, hN⟩).mono ?_
    · rintro pre x W ⟨hi, hk⟩ hgx
      refine ⟨fn, _, assign, body, run_yield hk.1 (hps x), roundIn_of_wpIn hfn (hassign _ pre x W _ hi hgx fun a' Wa hkf hkp hia hax => ?_)⟩
      have hka := hk.keeps hkf
      refine ⟨_, run_beginRound hka.1 rfl, wpIn_mono (hbody _ pre x a' _ (hI.putObj _ hia (by omega) hka.1 rfl) ((hAx pre x a').putObj (s := ()) _ hax (by omega) hka.1 rfl)) ?_⟩
      have hkb := hka.put (.loop { R .ready none with state := .busy })
      have hkp2 := hKt hkp (hKb Wa (w.heap.size + 1) _ (.loop { R .ready none with state := .busy }) (by omega) hka.1 rfl)
      generalize hWb : Wa.putObj (w.heap.size + 1) (.loop { R .ready none with state := .busy }) = Wb at hkb hkp2
      have fin : ∀ (jump : Option Code) (W3 : World), KeepsFrom w.heap.size Wb W3 → Books w.heap.size (.loop { R .ready none with state := .busy }) W3 ∧
          (Instr.endRound (w.heap.size + 1) jump).run P W3 = .ok (.bool jump.isNone) (W3.putObj (w.heap.size + 1) (.loop (R (if jump.isNone then .ready else .done) jump))) := fun jump W3 hk3 =>
        ⟨hkb.keeps hk3, run_endRound (P := P) jump (hkb.keeps hk3).1⟩
      have out : ∀ (c : Code) (W3 : World), KeepsFrom w.heap.size Wb W3 ∧ Ix c (pre ++ [x]) W3 → ∃ v w', (Instr.endRound (w.heap.size + 1) (some c)).run P W3 = .ok v w' ∧
          ((Ending.returned v = .returned (.bool true) ∧ (I (pre ++ [x]) w' ∧ Books w.heap.size (.loop (R .ready none)) w') ∧ Kp W w') ∨ (Ending.returned v = .returned (.bool false) ∧ ∃ c, Ix c (pre ++ [x]) w' ∧ Books w.heap.size (.loop (R .done (some c))) w')) := fun c W3 hp => by
        obtain ⟨hk3, hr⟩ := fin (some c) W3 hp.1
        exact ⟨_, _, hr, .inr ⟨rfl, c, (hIx c).putObj _ hp.2 (by omega) hk3.1 rfl, hk3.put _⟩⟩
      rintro e a3 W3 hp
      cases e with
      | normal =>
        obtain ⟨hk3, hr⟩ := fin none W3 hp.1
        exact ⟨_, _, hr, .inl ⟨rfl, ⟨hI.putObj _ hp.2.2 (by omega) hk3.1 rfl, hk3.put _⟩, hKt hkp2 (hKt hp.2.1 (hKb _ _ _ _ (by omega) hk3.1 rfl))⟩⟩
      | ret => exact out .ret W3 hp
      | exit id => exact out (.exit id) W3 hp
      | goto t => exact out (.goto t) W3 hp
      | panic ch => exact hp.elim
      | outgrown => exact hp.elim
    · rintro e W2 ⟨⟨v, rfl⟩, (⟨xs, hS, hi, hk⟩ | ⟨pre, hSp, c, hi, hk⟩)⟩
      · exact ⟨none, _, run_endLoop (P := P) hk.1 (by simp [R]), hdone _ xs _ (Nat.le_refl _) hS (hI.putObj _ hi (by omega) hk.1 rfl) (hk.put _).2⟩
      · exact ⟨some c, _, run_endLoop (P := P) hk.1 (by simp [R]), hstop _ c pre _ (Nat.le_refl _) hSp ((hIx c).putObj _ hi (by omega) hk.1 rfl) (hk.put _).2⟩
end Go.Proofs.YtmjjoiljdcjhdaaDoor
