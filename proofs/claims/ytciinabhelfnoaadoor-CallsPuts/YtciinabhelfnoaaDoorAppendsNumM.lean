/- A captured variable of bytes ('b = append(b, ..)' in a closure): what stays when it is appended to; nothing is claimed of the program here. -/
import Derived.RangeFuncBox
import Derived.Test.YtciinabhelfnoaaDoorBookBase
import Derived.Test.YtciinabhelfnoaaDoorSameNumsM
import Derived.Laws.BitsAllLaws
import Derived.Laws.Bits64
namespace Go.Proofs.YtciinabhelfnoaaDoor
set_option linter.unusedVariables false
open Go.RowKit

/-- What lay below base has not turned, nor any block but B that is no row of bytes. -/
structure KeepT (base B : Nat) (W W' : World) : Prop where
  below : Below base W W'
  other : ∀ k cs t fz, W.heap[k]? = some (.cells cs t fz) → t ≠ 5 → k ≠ B → W'.heap[k]? = W.heap[k]?

theorem KeepT.refl (base B : Nat) (W : World) : KeepT base B W W := ⟨Below.refl _ _, fun _ _ _ _ _ _ _ => rfl⟩
theorem KeepT.trans {base B : Nat} {a b c : World} (h : KeepT base B a b) (k : KeepT base B b c) : KeepT base B a c :=
  ⟨h.below.trans k.below, fun i cs t fz hi ht hB => (k.other i cs t fz ((h.other i cs t fz hi ht hB).trans hi) ht hB).trans (h.other i cs t fz hi ht hB)⟩
theorem KeepT.of_below {base B : Nat} {W W' : World} (h : Below W.heap.size W W') (hb : base ≤ W.heap.size) : KeepT base B W W' :=
  ⟨h.mono hb, fun k cs t fz hk _ _ => h.block k (Array.getElem?_eq_some_iff.1 hk).1⟩

/-- The row at that address is no row of bytes, or it was there ahead (of no numbers nothing is said). -/
def NB (base : Nat) (W : World) (a : Option Addr) (gs : List Int) : Prop := gs ≠ [] → ∀ b o, a = some ⟨b, o, none⟩ → b < base ∨ ∃ cs fz, W.heap[b]? = some (.cells cs 22 fz)

theorem nb_low {w : World} {a : Option Addr} {gs : List Int} (h : Seg4 w a gs) (W : World) : NB w.heap.size W a gs := fun hz b o e => .inl (h.lt e hz)

theorem NB.keep {base B : Nat} {W W' : World} {a : Option Addr} {v : Value} {gs : List Int} (h : NB base W a gs) (hB : Boxed W B 26 v) (k : KeepT base B W W') : NB base W' a gs := by
  intro hz b o e
  rcases h hz b o e with h | ⟨cs, fz, h⟩
  · exact .inl h
  · refine .inr ⟨cs, fz, (k.other b cs _ fz h (by decide) ?_).trans h⟩
    rintro rfl
    rw [show W.heap[b]? = _ from hB] at h
    simp at h

theorem Seg4.keep {base B : Nat} {W W' : World} {a : Option Addr} {v : Value} {gs : List Int} (h : Seg4 W a gs) (hn : NB base W a gs) (hB : Boxed W B 26 v) (k : KeepT base B W W') : Seg4 W' a gs := by
  rcases h with h | ⟨b, off, e, hc⟩
  · exact .inl h
  · refine .inr ⟨b, off, e, fun i hi => ?_⟩
    rcases hn (fun h => by rw [h] at hi; simp at hi) b off e with h | ⟨cs, fz, h⟩
    · exact (k.below.cell (p := ⟨b, off + i, none⟩) h).trans (hc i hi)
    · have hne : b ≠ B := by
        rintro rfl
        rw [show W.heap[b]? = _ from hB] at h
        simp at h
      exact (World.cell?_of_block (a := ⟨b, off + i, none⟩) (k.other b cs _ fz h (by decide) hne)).trans (hc i hi)

/-- One append to what the box holds, in the world w1 that is new since W. -/
theorem app_end {base B : Nat} {W w1 w2 : World} {v v2 : Value} {n n2 : Nat} {xs ys : List Value} (hB : Boxed W B 26 v) (hown : W.ownsRow base 5 1 v n xs) (hb : Below W.heap.size W w1)
    (hg : w1.grownBy w2 v.ownBlock) (hown2 : w2.ownsRow base 5 1 v2 n2 ys) (h0 : base ≤ B) :
    Boxed w2 B 26 v ∧ Boxed (w2.setCell ⟨B, 0, none⟩ v2) B 26 v2 ∧ (w2.setCell ⟨B, 0, none⟩ v2).ownsRow base 5 1 v2 n2 ys ∧ KeepT base B W (w2.setCell ⟨B, 0, none⟩ v2) := by
  have hB1 : Boxed w1 B 26 v := (hb.block B hB.lt).trans hB
  have hrow1 := own_below hown hb
  have hB2 : Boxed w2 B 26 v := hB1.kept hg (hB1.not_row (by decide) hrow1)
  refine ⟨hB2, hB2.set v2, own_kept (D := fun k => k = B) hown2 ((Kept.refl (fun k => k = B) w2).setCell (p := ⟨B, 0, none⟩) (.inl rfl) _) (fun g hg e => ?_), ?_⟩
  · subst e
    exact own_not hown2 hB2 (by decide) hg
  · have hk : Kept (fun k => k = B ∨ v.ownBlock = some k) W (w2.setCell ⟨B, 0, none⟩ v2) := by
      have k1 : Kept (fun k => k = B ∨ v.ownBlock = some k) W w1 := ⟨hb.os, hb.tape, hb.output, hb.size, fun k hk _ => hb.block k hk⟩
      exact (k1.grown hg (fun k e => .inl (.inr e))).setCell (p := ⟨B, 0, none⟩) (.inl (.inl rfl)) _
    have hbase : base ≤ W.heap.size := by have := hB.lt; omega
    refine ⟨hk.below (fun k hk => ?_) hbase, fun k cs t fz hh ht hne => hk.block k (Array.getElem?_eq_some_iff.1 hh).1 (fun hD => ?_)⟩
    · rcases hk with rfl | hk
      · exact h0
      · exact (own_lt hown hk).1
    · rcases hD with hD | hD
      · exact hne hD
      · exact own_not hown hh (fun e => ht e.symm) hD
end Go.Proofs.YtciinabhelfnoaaDoor

/- Numbers out of bytes, the highest first: plain mathematics; nothing of the program. -/
namespace Go.Proofs.YtciinabhelfnoaaDoor
set_option linter.unusedVariables false

/-- The number that bytes are, the highest first. -/
def be (zs : List Int) : Int := zs.foldl (fun n x => 256 * n + x) 0

theorem be_snoc (zs : List Int) (x : Int) : be (zs ++ [x]) = 256 * be zs + x := by simp [be]

theorem be_take (zs : List Int) (k : Nat) (h : k < zs.length) : be (zs.take (k + 1)) = 256 * be (zs.take k) + zs[k]?.getD 0 := by
  rw [List.take_succ_eq_append_getElem h, be_snoc]
  simp [h]

theorem be_bound (zs : List Int) (hb : ∀ i : Nat, 0 ≤ zs[i]?.getD 0 ∧ zs[i]?.getD 0 ≤ 255) (k : Nat) (h : k ≤ zs.length) : 0 ≤ be (zs.take k) ∧ be (zs.take k) < 256 ^ k := by
  induction k with
  | zero => simp [be]
  | succ k ih =>
    have := ih (by omega)
    rw [be_take zs k (by omega)]
    have h2 := hb k
    have e : (256 : Int) ^ (k + 1) = 256 * 256 ^ k := by rw [Int.pow_succ]; omega
    rw [e]
    omega

theorem pow_lt4 {k : Nat} (h : k < 4) : (256 : Int) ^ k ≤ 16777216 := by
  match k, h with
  | 0, _ => decide
  | 1, _ => decide
  | 2, _ => decide
  | 3, _ => decide

theorem pow_lt8 {k : Nat} (h : k < 8) : (256 : Int) ^ k ≤ 72057594037927936 := by
  match k, h with
  | 0, _ => decide
  | 1, _ => decide
  | 2, _ => decide
  | 3, _ => decide
  | 4, _ => decide
  | 5, _ => decide
  | 6, _ => decide
  | 7, _ => decide

theorem shl_or_u32 (n x : Int) (h0 : 0 ≤ n) (h1 : n < 16777216) (h2 : 0 ≤ x) (h3 : x ≤ 255) : bits .or .u32 (n * 256 % 4294967296) x = 256 * n + x := by
  rw [Int.emod_eq_of_lt (by omega) (by omega)]
  obtain ⟨a, rfl⟩ := Int.eq_ofNat_of_zero_le h0
  obtain ⟨b, rfl⟩ := Int.eq_ofNat_of_zero_le h2
  have e : ((a : Int) * 256) = ((a * 256 : Nat) : Int) := by simp
  rw [e, u32_or_nat (a * 256) b (by omega) (by omega), nat_join 8 (a * 256) b (by simp) (by omega)]
  omega

theorem shl_or_u64 (n x : Int) (h0 : 0 ≤ n) (h1 : n < 72057594037927936) (h2 : 0 ≤ x) (h3 : x ≤ 255) : bits .or .u64 (n * 256 % 18446744073709551616) x = 256 * n + x := by
  rw [Int.emod_eq_of_lt (by omega) (by omega)]
  obtain ⟨a, rfl⟩ := Int.eq_ofNat_of_zero_le h0
  obtain ⟨b, rfl⟩ := Int.eq_ofNat_of_zero_le h2
  have e : ((a : Int) * 256) = ((a * 256 : Nat) : Int) := by simp
  rw [e, u64_or_nat (a * 256) b (by omega) (by omega), nat_join 8 (a * 256) b (by simp) (by omega)]
  omega

theorem step4 (zs : List Int) (hb : ∀ i : Nat, 0 ≤ zs[i]?.getD 0 ∧ zs[i]?.getD 0 ≤ 255) (k : Nat) (hk : k < 4) (h : k < zs.length) :
    bits .or .u32 (be (zs.take k) * 256 % 4294967296) (zs[k]?.getD 0) = be (zs.take (k + 1)) := by
  have h1 := be_bound zs hb k (by omega)
  have h2 := pow_lt4 hk
  have h3 := hb k
  rw [be_take zs k h, shl_or_u32 _ _ h1.1 (by omega) h3.1 h3.2]

theorem step8 (zs : List Int) (hb : ∀ i : Nat, 0 ≤ zs[i]?.getD 0 ∧ zs[i]?.getD 0 ≤ 255) (k : Nat) (hk : k < 8) (h : k < zs.length) :
    bits .or .u64 (IntKind.u64.wrap (be (zs.take k) * 256)) (zs[k]?.getD 0) = be (zs.take (k + 1)) := by
  rw [IntKind.wrap_u64]
  have h1 := be_bound zs hb k (by omega)
  have h2 := pow_lt8 hk
  have h3 := hb k
  rw [be_take zs k h, shl_or_u64 _ _ h1.1 (by omega) h3.1 h3.2]

/-- What four bytes ahead say, and the error. -/
def getN (zs : List Int) : Int := if zs.length < 4 then 0 else be (zs.take 4)
def getE (zs : List Int) : Int := if zs.length < 4 then 4 else 0
/-- What eight bytes ahead say, and the error. -/
def getM (zs : List Int) : Int := if zs.length < 8 then 0 else be (zs.take 8)
def getF (zs : List Int) : Int := if zs.length < 8 then 4 else 0
/-- Whether yes or no is ahead, and the error. -/
def getY (zs : List Int) : Bool := !decide (zs.length < 4) && be (zs.take 4) == 1
def getG (zs : List Int) : Int := if zs.length < 4 then 4 else if 1 < be (zs.take 4) then 5 else 0
end Go.Proofs.YtciinabhelfnoaaDoor
