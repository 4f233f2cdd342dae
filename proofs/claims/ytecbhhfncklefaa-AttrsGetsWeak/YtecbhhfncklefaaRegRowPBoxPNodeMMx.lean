/- A whole variable is read at a step of a drawn region; nothing is claimed of the program here. -/
import Derived.Test.YtecbhhfncklefaaStoreWhole
import Derived.Deep.RegionHeld3
import Derived.Test.YtecbhhfncklefaaPMode
import Derived.Test.YtecbhhfncklefaaStoreField
namespace Go.Proofs.Ytecbhhfncklefaa
set_option linter.unusedVariables false
open Go.RowKit

theorem run_load_row {P : Program} {o : Oper} {a : Act} {w : World} (ty : TypeId) (x : Operand) (ho : o.op = .load ty x) (g : Nat) (hx : a.eval x = .pointer (some ⟨g, 0, none⟩)) (t : TypeId) (cs : Array Value) (fr : Nat × Nat) (d : TypeDesc)
    (hg : w.heap[g]? = some (.cells cs t fr)) (hu : P.underlying ty = some d) (hd : (match d with | .struct _ | .array _ _ => true | _ => false) = true) (hi : (P.info? ty).map (·.size) = some cs.size) :
    (execOp a.eval o).run P w = .ok (.value (.agg cs)) w := by
  unfold execOp
  simp only [ho, hx, Instr.loadAt, Instr.sureAddr, Sem.run_bind, Sem.run_pure, Result.andThen_ok, run_loadVar_row w g t ty cs fr d hg hu hd hi]

/-- A whole variable is stored, the world behind it a letter. -/
theorem wp_store_letter {P : Program} {o : Oper} {a : Act} {w : World} {K : Act → World → Prop} {Q : Exit → Act → World → Prop} (ty : TypeId) (x y : Operand) (ho : o.op = .store ty x y)
    (g : Nat) (cells : Array Value) (hx : a.eval x = .pointer (some ⟨g, 0, none⟩)) (hy : a.eval y = .agg cells)
    (t : TypeId) (old : Array Value) (hg : w.heap[g]? = some (.cells old t (0, 0))) (hi : (P.info? ty).map (·.size) = some cells.size)
    (hold : old.size = cells.size) (h1 : cells.all (·.oneCell') = true)
    (h : ∀ w' : World, w'.heap[g]? = some (.cells cells t (0, 0)) → w.grownBy w' (some g) → w'.heap.size = w.heap.size → K (a.put o.dst undef) w') : o.wp P a w K Q := by
  refine wp_store_row ty x y ho g cells hx hy t old hg hi hold h1 (h _ ?_ ⟨rfl, rfl, rfl, ?_, ?_⟩ ?_)
  · have hl := (Array.getElem?_eq_some_iff.1 hg).1
    simp [World.setRow, Array.getElem?_modify, hg]
  · simp [World.setRow]
  · intro i hi' hne
    have : ¬ g = i := fun e => hne (by rw [e])
    simp [World.setRow, Array.getElem?_modify, this]
  · simp [World.setRow]
end Go.Proofs.Ytecbhhfncklefaa

/- A variable of a struct beside the reader: what calls and stores make of the two; nothing is claimed of the program here. -/
namespace Go.Proofs.Ytecbhhfncklefaa
set_option linter.unusedVariables false
open Go.RowKit

def noU8 (v : Value) : Bool := match v with | .int .u8 _ => false | _ => true
theorem no_u8 {cs : Array Value} (h : cs.all noU8 = true) : ∀ (i : Nat) (v : Value), cs[i]? = some v → ∀ n : Int, v ≠ Value.int .u8 n := by
  rintro i v hv n rfl
  obtain ⟨hi, hv⟩ := Array.getElem?_eq_some_iff.1 hv
  have := (Array.all_eq_true.1 h) i hi
  rw [hv] at this
  cases this

/-- The reader's box, and a variable made since. -/
structure Nd (W : World) (h : Nat) (a : Option Addr) (len cap : Nat) (zs : List Int) (q : Nat) (t : TypeId) (W1 : World) (s : Rd) (cs : Array Value) : Prop where
  g : W.grownBy W1 (some h)
  R : Rb W1 h a len cap zs s
  z : W1.heap[q]? = some (.cells cs t)

section
variable {W W1 W2 : World} {h : Nat} {a : Option Addr} {len cap : Nat} {zs : List Int} {q : Nat} {t : TypeId} {s s' : Rd} {cs cs' : Array Value}
theorem Nd.lt (n : Nd W h a len cap zs q t W1 s cs) : q < W1.heap.size := (Array.getElem?_eq_some_iff.1 n.z).1
theorem Nd.call (n : Nd W h a len cap zs q t W1 s cs) (hqh : q ≠ h) (hg : W1.grownBy W2 (some h)) (hR : Rb W2 h a len cap zs s') : Nd W h a len cap zs q t W2 s' cs :=
  ⟨n.g.trans hg, hR, (hg.block q n.lt (fun e => hqh (Option.some.inj e))).trans n.z⟩
theorem Nd.next (n : Nd W h a len cap zs q t W1 s cs) (hb : Below W1.heap.size W1 W2) : Nd W h a len cap zs q t W2 s cs :=
  ⟨n.g.trans (grown_below hb (some h)), n.R.next hb, (hb.block q n.lt).trans n.z⟩
theorem Nd.store (n : Nd W h a len cap zs q t W1 s cs) (hqh : q ≠ h) (hq : W.heap.size ≤ q) (hc : cs.all noU8 = true) (hr : W2.heap[q]? = some (.cells cs' t)) (hg : W1.grownBy W2 (some q)) : Nd W h a len cap zs q t W2 s cs' :=
  ⟨n.g.andThen hg (fun j e => .inl (by have := Option.some.inj e; omega)), n.R.other hg hqh (seg_past n.R.seg n.z (no_u8 hc) hg), hr⟩
/-- Another block turns. -/
theorem Nd.far (n : Nd W h a len cap zs q t W1 s cs) {g : Nat} {t' : TypeId} {ds : Array Value} (hgh : g ≠ h) (hgq : g ≠ q) (hg0 : W.heap.size ≤ g) (hz : W1.heap[g]? = some (.cells ds t')) (hc : ds.all noU8 = true) (hg : W1.grownBy W2 (some g)) : Nd W h a len cap zs q t W2 s cs :=
  ⟨n.g.andThen hg (fun j e => .inl (by have := Option.some.inj e; omega)), n.R.other hg hgh (seg_past n.R.seg hz (no_u8 hc) hg), (hg.block q n.lt (fun e => hgq (Option.some.inj e).symm)).trans n.z⟩
end

theorem run_store_part {P : Program} (w : World) (g i : Nat) (t ty : TypeId) (old : Array Value) (vs : List Value) (hg : w.heap[g]? = some (.cells old t (0, 0))) (hi : (P.info? ty).map (·.size) = some vs.length) (hlt : i + vs.length ≤ old.size)
    (h1 : ∀ x ∈ vs, x.oneCell' = true) : (storeVar ty ⟨g, i, none⟩ (.agg vs.toArray)).run P w = .ok () (w.setRow g (old.toList.take i ++ vs ++ old.toList.drop (i + vs.length)).toArray) := by
  have := run_storeCells_at (P := P) g i t vs 0 old w hg (by omega) h1
  cases hq : P.info? ty with
  | none => simp [hq] at hi
  | some j =>
    have hs : j.size = vs.length := by simpa [hq] using hi
    simp only [Nat.add_zero] at this
    simp [storeVar, sizeOf, typeInfo, hq, Value.cells, hs, this]

/-- A part of a variable of a struct is stored. -/
theorem wpList_store_part {P : Program} {ops : Array Oper} {rest : List Oper} {op : Oper} {a : Act} {w : World} {Q : Exit → Act → World → Prop} (hgd : op.guard = none) (ty : TypeId) (x y : Operand) (ho : op.op = .store ty x y)
    (g i : Nat) (vs : List Value) (hx : a.eval x = .pointer (some ⟨g, i, none⟩)) (hy : a.eval y = .agg vs.toArray)
    (t : TypeId) (old : Array Value) (hg : w.heap[g]? = some (.cells old t (0, 0))) (hi : (P.info? ty).map (·.size) = some vs.length) (hlt : i + vs.length ≤ old.size)
    (h1 : ∀ x ∈ vs, x.oneCell' = true) (new : Array Value) (hnew : (old.toList.take i ++ vs ++ old.toList.drop (i + vs.length)).toArray = new)
    (h : ∀ w' : World, w'.heap[g]? = some (.cells new t (0, 0)) → w.grownBy w' (some g) → w'.heap.size = w.heap.size → wpList P ops Q rest (a.put op.dst undef) w') : wpList P ops Q (op :: rest) a w := by
  subst hnew
  refine wpList_plain hgd fun _ hK => ?_
  unfold Oper.wp execOp
  simp only [ho, hx, hy, Instr.storeAt, Instr.sureAddr, Sem.run_bind, Sem.run_pure, Result.andThen_ok, run_store_part w g i t ty old vs hg hi hlt h1]
  refine hK _ _ (h _ ?_ ⟨rfl, rfl, rfl, ?_, ?_⟩ ?_)
  · have hl := (Array.getElem?_eq_some_iff.1 hg).1
    simp [World.setRow, Array.getElem?_modify, hg]
  · simp [World.setRow]
  · intro j hj hne
    have : ¬ g = j := fun e => hne (by rw [e])
    simp [World.setRow, Array.getElem?_modify, this]
  · simp [World.setRow]

/-- As wpList_store_part, wpList_store_field: at a step of a drawn region. -/
theorem wp_part_letter {P : Program} {o : Oper} {a : Act} {w : World} {K : Act → World → Prop} {Q : Exit → Act → World → Prop} (ty : TypeId) (x y : Operand) (ho : o.op = .store ty x y)
    (g i : Nat) (vs : List Value) (hx : a.eval x = .pointer (some ⟨g, i, none⟩)) (hy : a.eval y = .agg vs.toArray)
    (t : TypeId) (old : Array Value) (hg : w.heap[g]? = some (.cells old t (0, 0))) (hi : (P.info? ty).map (·.size) = some vs.length) (hlt : i + vs.length ≤ old.size)
    (h1 : ∀ x ∈ vs, x.oneCell' = true) (new : Array Value) (hnew : (old.toList.take i ++ vs ++ old.toList.drop (i + vs.length)).toArray = new)
    (h : ∀ w' : World, w'.heap[g]? = some (.cells new t (0, 0)) → w.grownBy w' (some g) → w'.heap.size = w.heap.size → K (a.put o.dst undef) w') : o.wp P a w K Q := by
  subst hnew
  unfold Oper.wp execOp
  simp only [ho, hx, hy, Instr.storeAt, Instr.sureAddr, Sem.run_bind, Sem.run_pure, Result.andThen_ok, run_store_part w g i t ty old vs hg hi hlt h1]
  refine h _ ?_ ⟨rfl, rfl, rfl, ?_, ?_⟩ ?_
  · have hl := (Array.getElem?_eq_some_iff.1 hg).1
    simp [World.setRow, Array.getElem?_modify, hg]
  · simp [World.setRow]
  · intro j hj hne
    have : ¬ g = j := fun e => hne (by rw [e])
    simp [World.setRow, Array.getElem?_modify, this]
  · simp [World.setRow]
theorem wp_field_letter {P : Program} {o : Oper} {a : Act} {w : World} {K : Act → World → Prop} {Q : Exit → Act → World → Prop} (ty : TypeId) (x y : Operand) (ho : o.op = .store ty x y)
    (g i : Nat) (v : Value) (hx : a.eval x = .pointer (some ⟨g, i, none⟩)) (hy : a.eval y = v)
    (t : TypeId) (old : Array Value) (hg : w.heap[g]? = some (.cells old t (0, 0))) (hi : (P.info? ty).map (·.size) = some 1) (hlt : i < old.size)
    (h1 : v.oneCell' = true) (new : Array Value) (hnew : (old.toList.take i ++ [v] ++ old.toList.drop (i + 1)).toArray = new)
    (h : ∀ w' : World, w'.heap[g]? = some (.cells new t (0, 0)) → w.grownBy w' (some g) → w'.heap.size = w.heap.size → K (a.put o.dst undef) w') : o.wp P a w K Q := by
  subst hnew
  unfold Oper.wp execOp
  simp only [ho, hx, hy, Instr.storeAt, Instr.sureAddr, Sem.run_bind, Sem.run_pure, Result.andThen_ok, run_store_field w g i t ty old v hg hi hlt h1]
  refine h _ ?_ ⟨rfl, rfl, rfl, ?_, ?_⟩ ?_
  · have hl := (Array.getElem?_eq_some_iff.1 hg).1
    simp [World.setRow, Array.getElem?_modify, hg]
  · simp [World.setRow]
  · intro j hj hne
    have : ¬ g = j := fun e => hne (by rw [e])
    simp [World.setRow, Array.getElem?_modify, this]
  · simp [World.setRow]
end Go.Proofs.Ytecbhhfncklefaa

/- The numbers of a node, one behind the other, where there are enough bytes; nothing but the reader turns. -/
namespace Go.Proofs.Ytecbhhfncklefaa
set_option linter.unusedVariables false
open Go.RowKit

/-- The reader k bytes on. -/
def Rd.at (s : Rd) (k : Nat) : Rd := ⟨s.r.drop k, s.n + k, 0⟩
theorem at_zero {s : Rd} (h : s.e = 0) : s.at 0 = s := by
  show (⟨s.r.drop 0, s.n + 0, 0⟩ : Rd) = s
  rw [List.drop_zero, Nat.add_zero, ← h]
theorem at_more (s : Rd) (k m : Nat) : (⟨(s.at k).r.drop m, (s.at k).n + m, 0⟩ : Rd) = s.at (k + m) := by
  show (⟨(s.r.drop k).drop m, s.n + k + m, 0⟩ : Rd) = ⟨s.r.drop (k + m), s.n + (k + m), 0⟩
  rw [List.drop_drop, Nat.add_assoc]
theorem aft_full {α : Type} {c : Codec α} {L : Nat} {val : List Int → α} (hf : c.Fix L val) {s s' : Rd} {v : α} (he : s.e = 0) (hl : L ≤ s.r.length) (h : Aft c s v s') : v = val s.r ∧ s' = ⟨s.r.drop L, s.n + L, 0⟩ := by
  have hd := hf.all s.r s.n hl
  rw [← Rd.clean s he] at hd
  have h1 := h.e
  rw [hd] at h1
  have h2 := h.eq h1
  rw [hd] at h2
  exact Prod.mk.inj h2
theorem len_at {s : Rd} {k m : Nat} (h : k + m ≤ s.r.length) : m ≤ (s.at k).r.length := by
  show m ≤ (s.r.drop k).length
  rw [List.length_drop]; omega

def At (W : World) (h : Nat) (a : Option Addr) (len cap : Nat) (zs : List Int) (s : Rd) (k : Nat) (v : Value) (e : Ending) (W' : World) : Prop := e = .returned v ∧ W.grownBy W' (some h) ∧ Rb W' h a len cap zs (s.at k)

section
variable {W : World} {h : Nat} {a : Option Addr} {len cap : Nat} {zs : List Int} {s : Rd} {k : Nat}
theorem nd_num (R : Rb W h a len cap zs (s.at k)) (hl : k + 4 ≤ s.r.length) : Calls Try.prog 30 #[.pointer (some ⟨h, 0, none⟩)] W (At W h a len cap zs s (k + 4) (.int .u32 (n4 s.r k))) := by
  refine (rdnumber_any W h a len cap zs (s.at k) R rfl).mono ?_
  rintro e W' ⟨hg, v, s', haft, hc⟩
  obtain ⟨rfl, rfl⟩ := aft_full (fix_num 4) rfl (len_at hl) haft
  rcases hc with ⟨_, rfl, hR⟩ | ⟨h0, _⟩
  · rw [at_more] at hR
    exact ⟨rfl, hg, hR⟩
  · exact absurd rfl h0
theorem nd_long (R : Rb W h a len cap zs (s.at k)) (hl : k + 8 ≤ s.r.length) : Calls Try.prog 33 #[.pointer (some ⟨h, 0, none⟩)] W (At W h a len cap zs s (k + 8) (.int .u64 (n8 s.r k))) := by
  refine (rdlong_any W h a len cap zs (s.at k) R rfl).mono ?_
  rintro e W' ⟨hg, v, s', haft, hc⟩
  obtain ⟨rfl, rfl⟩ := aft_full (fix_num 8) rfl (len_at hl) haft
  rcases hc with ⟨_, rfl, hR⟩ | ⟨h0, _⟩
  · rw [at_more] at hR
    exact ⟨rfl, hg, hR⟩
  · exact absurd rfl h0
theorem aft_mode {v : Int} {s' : Rd} (he : s.e = 0) (hl : 4 ≤ s.r.length) (h : Aft modeC s v s') : v = be (s.r.take 4) ∧ s' = must (decide (be (s.r.take 4) ≤ 4095)) ⟨s.r.drop 4, s.n + 4, 0⟩ ∨ (decide (be (s.r.take 4) ≤ 4095) = false ∧ s'.e = 5) := by
  have hd := (fix_num 4).all s.r s.n hl
  rw [← Rd.clean s he] at hd
  have hm : modeC.dec s = (((numC 4).dec s).1, must (decide (((numC 4).dec s).1 ≤ 4095)) ((numC 4).dec s).2) := rfl
  rw [hd] at hm
  cases hb : decide (be (s.r.take 4) ≤ 4095) with
  | true =>
    simp only [hb] at hm
    have h1 := h.e
    rw [hm, must_yes] at h1
    have h2 := h.eq h1
    rw [hm, must_yes] at h2
    obtain ⟨rfl, rfl⟩ := Prod.mk.inj h2
    exact .inl ⟨rfl, (must_yes _).symm⟩
  | false =>
    simp only [hb] at hm
    have h1 := h.e
    rw [hm] at h1
    exact .inr ⟨rfl, h1⟩
theorem nd_mode (R : Rb W h a len cap zs (s.at k)) (hl : k + 4 ≤ s.r.length) : Calls Try.prog 32 #[.pointer (some ⟨h, 0, none⟩)] W fun e W' =>
    (decide (n4 s.r k ≤ 4095) = true ∧ At W h a len cap zs s (k + 4) (.int .u32 (n4 s.r k)) e W') ∨ (decide (n4 s.r k ≤ 4095) = false ∧ e = .panicked (bad 5) ∧ W.grownBy W' (some h)) := by
  refine (rdmode_any W h a len cap zs (s.at k) R rfl).mono ?_
  rintro e W' ⟨hg, v, s', haft, hc⟩
  have hk : be ((s.at k).r.take 4) = n4 s.r k := rfl
  have hm := aft_mode rfl (len_at hl) haft
  rw [hk] at hm
  rcases hm with ⟨rfl, rfl⟩ | ⟨h1, h5⟩
  · cases hb : decide (n4 s.r k ≤ 4095) with
    | true =>
      rw [hb, must_yes] at hc
      rcases hc with ⟨_, rfl, hR⟩ | ⟨h0, _⟩
      · rw [at_more] at hR
        exact .inl ⟨rfl, rfl, hg, hR⟩
      · exact absurd rfl h0
    | false =>
      rw [hb, must_no rfl] at hc
      rcases hc with ⟨h0, _⟩ | ⟨_, rfl⟩
      · cases h0
      · exact .inr ⟨rfl, rfl, hg⟩
  · rcases hc with ⟨h0, _⟩ | ⟨_, rfl⟩
    · omega
    · rw [h5]
      exact .inr ⟨h1, rfl, hg⟩
theorem tim_full {v : Int × Int} {s' : Rd} (he : s.e = 0) (hl : 8 ≤ s.r.length) (h : Aft timC s v s') : (tok (be ((s.r.drop 4).take 4)) = true ∧ v = (be (s.r.take 4), be ((s.r.drop 4).take 4)) ∧ s' = ⟨s.r.drop 8, s.n + 8, 0⟩) ∨ (tok (be ((s.r.drop 4).take 4)) = false ∧ s'.e = 5) := by
  have hd := (fix_seq (fix_num 4) (fix_num 4)).all s.r s.n hl
  rw [← Rd.clean s he] at hd
  have hm : timC.dec s = ((((numC 4).seq (numC 4)).dec s).1, must (tok (((numC 4).seq (numC 4)).dec s).1.2) (((numC 4).seq (numC 4)).dec s).2) := rfl
  rw [hd] at hm
  cases hb : tok (be ((s.r.drop 4).take 4)) with
  | true =>
    simp only [hb] at hm
    have h1 := h.e
    rw [hm, must_yes] at h1
    have h2 := h.eq h1
    rw [hm, must_yes] at h2
    obtain ⟨rfl, rfl⟩ := Prod.mk.inj h2
    exact .inl ⟨rfl, rfl, rfl⟩
  | false =>
    simp only [hb] at hm
    have h1 := h.e
    rw [hm] at h1
    exact .inr ⟨rfl, h1⟩
theorem n4_drop (r : List Int) (k : Nat) : be (((r.drop k).drop 4).take 4) = n4 r (k + 4) := by unfold n4; rw [List.drop_drop]
theorem nd_mom (R : Rb W h a len cap zs (s.at k)) (hl : k + 8 ≤ s.r.length) : Calls Try.prog 34 #[.pointer (some ⟨h, 0, none⟩)] W fun e W' =>
    (tok (n4 s.r (k + 4)) = true ∧ At W h a len cap zs s (k + 8) (.agg #[.int .u32 (n4 s.r k), .int .u32 (n4 s.r (k + 4))]) e W') ∨ (tok (n4 s.r (k + 4)) = false ∧ e = .panicked (bad 5) ∧ W.grownBy W' (some h)) := by
  refine (rdmoment_any W h a len cap zs (s.at k) R rfl).mono ?_
  rintro e W' ⟨hg, v, s', haft, hc⟩
  have hk : be (((s.at k).r.drop 4).take 4) = n4 s.r (k + 4) := n4_drop s.r k
  have hm := tim_full rfl (len_at hl) haft
  rw [hk] at hm
  rcases hm with ⟨h1, rfl, rfl⟩ | ⟨h1, h5⟩
  · rcases hc with ⟨_, rfl, hR⟩ | ⟨h0, _⟩
    · rw [at_more] at hR
      exact .inl ⟨h1, rfl, hg, hR⟩
    · exact absurd rfl h0
  · rcases hc with ⟨h0, _⟩ | ⟨_, rfl⟩
    · omega
    · rw [h5]
      exact .inr ⟨h1, rfl, hg⟩
end

theorem n8_half {r : List Int} (hb : Byt r) {k : Nat} (hl : k + 8 ≤ r.length) : (n8 r k == 0) = ((n4 r k == 0) && (n4 r (k + 4) == 0)) := by
  have hs : (r.drop k).take 8 = (r.drop k).take 4 ++ (r.drop (k + 4)).take 4 := by
    rw [← List.drop_drop, show (8 : Nat) = 4 + 4 from rfl, List.take_add]
  have hl2 : ((r.drop (k + 4)).take 4).length = 4 := by simp; omega
  have h8 : n8 r k = n4 r k * 256 ^ 4 + n4 r (k + 4) := by
    unfold n8 n4
    rw [hs, be_append, hl2]
  have p1 := (num_lt (byt_tail hb k)).1
  have p2 := (num_lt (byt_tail hb (k + 4))).1
  have e4 : (256 : Int) ^ 4 = 4294967296 := by decide
  rw [e4] at h8
  have p1' : 0 ≤ n4 r k := p1
  have p2' : 0 ≤ n4 r (k + 4) := p2
  rw [Bool.eq_iff_iff]
  simp only [Bool.and_eq_true, beq_iff_eq]
  omega
end Go.Proofs.Ytecbhhfncklefaa
