/- The document's reader, and a variable of a struct beside it: what calls and stores make of the two; nothing is claimed of the program here. -/
import Derived.Test.YtecbhhfncklefaaRefRd
import Derived.Test.YtecbhhfncklefaaPBox
namespace Go.Proofs.Ytecbhhfncklefaa
set_option linter.unusedVariables false
open Go.RowKit

/-- The reader's box, the bytes, and a variable made since. -/
structure Nr (W : World) (h : Nat) (a : Option Addr) (len cap : Nat) (zs : List Int) (q p : Nat) (t : TypeId) (W1 : World) (s : Rd) (cs ds : Array Value) : Prop where
  g : W.grownBy W1 (some h)
  r : Rr W1 h a len cap s
  on : s.On zs
  seg : Seg W1 a zs
  z : W1.heap[q]? = some (.cells cs t)
  y : W1.heap[p]? = some (.cells ds t)

section
variable {W W1 W2 : World} {h : Nat} {a : Option Addr} {len cap : Nat} {zs : List Int} {q p : Nat} {t : TypeId} {s s' : Rd} {cs cs' ds : Array Value}
theorem Nr.lt (n : Nr W h a len cap zs q p t W1 s cs ds) : q < W1.heap.size := (Array.getElem?_eq_some_iff.1 n.z).1
theorem Nr.ltp (n : Nr W h a len cap zs q p t W1 s cs ds) : p < W1.heap.size := (Array.getElem?_eq_some_iff.1 n.y).1
theorem rr_u8 {W : World} {h : Nat} {a : Option Addr} {len cap : Nat} {s : Rd} (r : Rr W h a len cap s) {W' : World} {zs : List Int} (hs : Seg W a zs) (hg : W.grownBy W' (some h)) : Seg W' a zs :=
  seg_past hs r (no_u8 (by simp [noU8])) hg
theorem Nr.call (n : Nr W h a len cap zs q p t W1 s cs ds) (hqh : q ≠ h) (hph : p ≠ h) (hg : W1.grownBy W2 (some h)) (hr : Rr W2 h a len cap s') (ho : s'.On zs) : Nr W h a len cap zs q p t W2 s' cs ds :=
  ⟨n.g.trans hg, hr, ho, rr_u8 n.r n.seg hg, (hg.block q n.lt (fun e => hqh (Option.some.inj e))).trans n.z, (hg.block p n.ltp (fun e => hph (Option.some.inj e))).trans n.y⟩
theorem Nr.next (n : Nr W h a len cap zs q p t W1 s cs ds) (hb : Below W1.heap.size W1 W2) : Nr W h a len cap zs q p t W2 s cs ds :=
  ⟨n.g.trans (grown_below hb (some h)), n.r.next hb, n.on, n.seg.below hb, (hb.block q n.lt).trans n.z, (hb.block p n.ltp).trans n.y⟩
theorem Nr.store (n : Nr W h a len cap zs q p t W1 s cs ds) (hqh : q ≠ h) (hpq : p ≠ q) (hq : W.heap.size ≤ q) (hc : cs.all noU8 = true) (hr : W2.heap[q]? = some (.cells cs' t)) (hg : W1.grownBy W2 (some q)) : Nr W h a len cap zs q p t W2 s cs' ds :=
  ⟨n.g.andThen hg (fun j e => .inl (by have := Option.some.inj e; omega)), (hg.block h n.r.lt (fun e => hqh (Option.some.inj e).symm)).trans n.r, n.on, seg_past n.seg n.z (no_u8 hc) hg, hr, (hg.block p n.ltp (fun e => hpq (Option.some.inj e))).trans n.y⟩
end
end Go.Proofs.Ytecbhhfncklefaa
