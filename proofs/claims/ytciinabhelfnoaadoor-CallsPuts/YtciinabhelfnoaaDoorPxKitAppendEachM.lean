/- Bytes of its own that are appended to; nothing is claimed of the program here. -/
import Derived.Test.YtciinabhelfnoaaDoorBase
import Derived.Test.YtciinabhelfnoaaDoorPiecesGrowM
import Derived.Test.YtciinabhelfnoaaDoorCredMath2M
import Derived.Test.YtciinabhelfnoaaDoorCredCellsCredTwinM
import Derived.Laws.AppendOwnNone
import Derived.Maps.AppendAt
import Derived.WalkKit
namespace Go.Proofs.YtciinabhelfnoaaDoor
set_option linter.unusedVariables false
open Go.RowKit

theorem low_cells {w3 W : World} {H : Nat} {x y z : Value} {t : TypeId} (h : Below w3.heap.size w3 W) (hc : w3.heap[H]? = some (.cells #[x, y, z] t)) : W.cell? ⟨H, 0, none⟩ = some x ∧ W.cell? ⟨H, 1, none⟩ = some y ∧ W.cell? ⟨H, 2, none⟩ = some z :=
  have := cred_at ((h.block _ (Array.getElem?_eq_some_iff.1 hc).1).trans hc)
  ⟨this.1, this.2.1, this.2.2.1⟩

/-- Bytes of its own since w3, and w3 as it was. -/
structure Px (w3 : World) (vx : Value) (xs : List Int) (W : World) : Prop where
  below : Below w3.heap.size w3 W
  own : W.ownsRow w3.heap.size 5 1 vx xs.length (xs.map (Value.int .u8))
theorem Px.next {w3 : World} {vx : Value} {xs : List Int} {W W' : World} (h : Px w3 vx xs W) (hb : Below W.heap.size W W') : Px w3 vx xs W' := ⟨h.below.trans (hb.mono h.below.size), own_below h.own hb⟩
theorem Px.app {w3 : World} {vx v' : Value} {xs ys : List Int} {W W' : World} {n : Nat} (h : Px w3 vx xs W) (ho : W'.ownsRow w3.heap.size 5 1 v' (xs.length + n) (xs.map (Value.int .u8) ++ ys.map (Value.int .u8))) (hn : ys.length = n) (hg : W.grownBy W' vx.ownBlock) : Px w3 v' (xs ++ ys) W' :=
  ⟨h.below.grown hg h.below.size (fun k e => own_low h.own e), by rw [List.length_append, hn, List.map_append]; exact ho⟩

theorem credB_six (s : Int) (m : List Int) (u g : Int) (gs : List Int) : credB s m u g gs = bytesOf s 4 ++ opBytes m ++ bytesOf u 4 ++ bytesOf g 4 ++ bytesOf (gs.length : Int) 4 ++ numsB gs := by
  rw [credB, numsB_one, numsB_three]
  simp only [List.append_assoc]
end Go.Proofs.YtciinabhelfnoaaDoor

/- 'append(own, any...)': the source may be nil; one law for both; nothing is claimed of the program here. -/
namespace Go.Proofs.YtciinabhelfnoaaDoor
set_option linter.unusedVariables false
open Go.RowKit

theorem grown_refl (w : World) (row : Option Nat) : w.grownBy w row := ⟨rfl, rfl, rfl, Nat.le_refl _, fun _ _ _ => rfl⟩

theorem wpList_append_each {P : Program} (w : World) {ops : Array Oper} {rest : List Oper} {o : Oper} {a : Act} {Q : Exit → Act → World → Prop} (hgd : o.guard = none) (s x : Operand) (t : TypeId)
    (ho : o.op = .call { callee := .builtin .append, args := #[s, x], argTypes := #[t, t] })
    (base : Nat) (e : TypeId) (i : TypeInfo) (z : Value) (size bytes : Nat) (ht : P.underlying t = some (.slice e)) (hi : P.info? e = some i) (hz : i.zero = some z)
    (hsize : i.size = size) (hby : i.bytes = bytes) (hzs : z.cells.size = size) (hsz : 0 < size)
    (v : Value) (n : Nat) (xs : List Value) (hs : a.eval s = v) (hown : w.ownsRow base e size v n xs)
    (ad : Option Addr) (m c : Nat) (news : List Value) (hx : a.eval x = .slice ad m c) (hnil : ad = none → m = 0 ∧ c = 0) (hl : news.length = m * size) (hnews : ∀ b, ad = some b → ∀ j u, news[j]? = some u → w.cell? (b.add j) = some u) (h1 : ∀ u ∈ news, u.oneCell' = true)
    (h63 : n + m ≤ maxLen) (hbytes : (n + m) * bytes ≤ 140737488355328) (hbase : base ≤ w.heap.size)
    (h : ∀ v' w', w'.ownsRow base e size v' (n + m) (xs ++ news) → w.grownBy w' v.ownBlock → wpList P ops Q rest (a.put o.dst v') w') : wpList P ops Q (o :: rest) a w := by
  cases ad with
  | none =>
    obtain ⟨rfl, rfl⟩ := hnil rfl
    have hn : news = [] := List.length_eq_zero_iff.1 (by simpa using hl)
    subst hn
    exact wpList_append_own_none hgd s x t ho base e i size ht hi v n xs hs hown hx (h v w (by simpa using hown) (grown_refl _ _))
  | some b => exact wpList_append_own w hgd s x t ho base e i z size bytes ht hi hz hsize hby hzs hsz v n xs hs hown b m c news hx hl (hnews b rfl) h1 h63 hbytes hbase (fun v' w' ho' hg _ => h v' w' ho' hg)

end Go.Proofs.YtciinabhelfnoaaDoor
