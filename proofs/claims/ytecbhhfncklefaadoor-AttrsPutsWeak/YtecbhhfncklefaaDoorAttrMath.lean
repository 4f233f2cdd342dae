/- What is told of a node, what is to be set, what was told ahead and behind: their bytes, and what is got of bytes; plain mathematics. -/
import Derived.Test.YtecbhhfncklefaaDoorCodec
namespace Go.Proofs.YtecbhhfncklefaaDoor
set_option linter.unusedVariables false

/-- A part of a fixed size: all of it is there, or ErrShort. -/
structure Codec.Fix {α : Type} (c : Codec α) (L : Nat) (val : List Int → α) : Prop where
  few : ∀ r n, r.length < L → (c.dec ⟨r, n, 0⟩).2.e = 4
  all : ∀ r n, L ≤ r.length → c.dec ⟨r, n, 0⟩ = (val r, ⟨r.drop L, n + L, 0⟩)

theorem fix_num (size : Nat) : (numC size).Fix size (fun r => be (r.take size)) where
  few r n h := by show (rNum size ⟨r, n, 0⟩).2.e = 4; unfold rNum; rw [if_neg (by simp), if_pos h]
  all r n h := by show rNum size ⟨r, n, 0⟩ = _; unfold rNum; rw [if_neg (by simp), if_neg (by show ¬ r.length < size; omega)]

theorem fix_seq {α β : Type} {c : Codec α} {d : Codec β} {L M : Nat} {f : List Int → α} {g : List Int → β} (hc : c.Fix L f) (hd : d.Fix M g) : (c.seq d).Fix (L + M) (fun r => (f r, g (r.drop L))) where
  few r n h := by
    show (d.dec (c.dec ⟨r, n, 0⟩).2).2.e = 4
    by_cases hl : r.length < L
    · have h4 := hc.few r n hl
      rw [d.stick _ (by rw [h4]; decide)]
      exact h4
    · rw [hc.all r n (by omega)]
      exact hd.few _ _ (by rw [List.length_drop]; omega)
  all r n h := by
    show (((c.dec ⟨r, n, 0⟩).1, (d.dec (c.dec ⟨r, n, 0⟩).2).1), (d.dec (c.dec ⟨r, n, 0⟩).2).2) = _
    rw [hc.all r n (by omega)]
    show ((f r, (d.dec ⟨r.drop L, n + L, 0⟩).1), (d.dec ⟨r.drop L, n + L, 0⟩).2) = _
    rw [hd.all _ _ (by rw [List.length_drop]; omega), List.drop_drop, Nat.add_assoc]

/-- What 'Get' answers: the error, the value, how many bytes. -/
def Codec.gE {α : Type} (c : Codec α) (zs : List Int) : Int := (c.dec ⟨zs, 0, 0⟩).2.e
def Codec.gV {α : Type} (c : Codec α) (zs : List Int) : α := if c.gE zs = 0 then (c.dec ⟨zs, 0, 0⟩).1 else c.zero
def Codec.gN {α : Type} (c : Codec α) (zs : List Int) : Nat := if c.gE zs = 0 then (c.dec ⟨zs, 0, 0⟩).2.n else 0

theorem Codec.back {α : Type} (c : Codec α) {x : α} (h : c.ok x) (more : List Int) : c.gE (c.enc x ++ more) = 0 ∧ c.gV (c.enc x ++ more) = x ∧ c.gN (c.enc x ++ more) = (c.enc x).length := by
  have := c.put x more 0 h
  simp [Codec.gV, Codec.gN, Codec.gE, this]
theorem Codec.fewer {α : Type} (c : Codec α) {x : α} (h : c.ok x) {k : Nat} (hk : k < (c.enc x).length) : c.gE ((c.enc x).take k) = 4 := c.short x 0 k h hk
theorem Codec.bad {α : Type} (c : Codec α) {zs : List Int} (h : c.gE zs ≠ 0) : c.gV zs = c.zero ∧ c.gN zs = 0 := by simp [Codec.gV, Codec.gN, h]
theorem Codec.good {α : Type} (c : Codec α) {zs : List Int} (hb : Byt zs) (h : c.gE zs = 0) : c.ok (c.gV zs) ∧ c.enc (c.gV zs) = zs.take (c.gN zs) ∧ c.gN zs ≤ zs.length ∧ (c.enc (c.gV zs)).length = c.gN zs := by
  obtain ⟨o, r, n⟩ := c.again zs 0 hb h
  unfold Codec.gV Codec.gN
  rw [if_pos h, if_pos h]
  rw [Nat.zero_add] at n
  refine ⟨o, ?_, ?_, n.symm⟩
  · rw [n]
    have := congrArg (List.take (c.enc (c.dec ⟨zs, 0, 0⟩).1).length) r
    rw [List.take_left' rfl] at this
    exact this.symm
  · rw [n]
    have := congrArg List.length r
    rw [List.length_append] at this
    omega

/-- Two values that may be and have the same bytes are one. -/
theorem Codec.inj {α : Type} (c : Codec α) {x y : α} (hx : c.ok x) (hy : c.ok y) (h : c.enc x = c.enc y) : x = y := by
  have h1 := c.put x [] 0 hx
  have h2 := c.put y [] 0 hy
  rw [h, h2] at h1
  exact (congrArg Prod.fst h1).symm

/-- Yes or no. -/
def yesC : Codec Bool := ((numC 4).mustC (fun x => decide (x ≤ 1))).iso (fun x => x == 1) (fun b => if b then 1 else 0) (fun b => by cases b <;> rfl) (fun x h => by
  have h1 : 0 ≤ x := h.1.1
  have h2 : x ≤ 1 := by simpa using h.2
  by_cases hx : x = 1
  · simp [hx]
  · have : x = 0 := by omega
    simp [this])
/-- A point of time. -/
def timC : Codec (Int × Int) := ((numC 4).seq (numC 4)).mustC (fun t => tok t.2)
/-- What is had, or not. -/
def optC {α : Type} (d : Codec α) : Codec (Bool × α) := yesC.dep id d rfl
/-- How a time is set, and to what. -/
def howC : Codec (Int × (Int × Int)) := ((numC 4).mustC (fun x => decide (x ≤ 2))).dep (fun h => h == 2) timC rfl

/-- What is told of a node. -/
structure Atr where
  (kind mode links user group size used id rs rn ws wn ts tn : Int)
def zeroA : Atr := ⟨0, 0, 0, 0, 0, 0, 0, 0, 0, 0, 0, 0, 0, 0⟩
structure Atr.In (a : Atr) : Prop where
  kind : 0 ≤ a.kind ∧ a.kind ≤ 4294967295
  mode : 0 ≤ a.mode ∧ a.mode ≤ 4294967295
  links : 0 ≤ a.links ∧ a.links ≤ 4294967295
  user : 0 ≤ a.user ∧ a.user ≤ 4294967295
  group : 0 ≤ a.group ∧ a.group ≤ 4294967295
  size : 0 ≤ a.size ∧ a.size ≤ 18446744073709551615
  used : 0 ≤ a.used ∧ a.used ≤ 18446744073709551615
  id : 0 ≤ a.id ∧ a.id ≤ 18446744073709551615
  rs : 0 ≤ a.rs ∧ a.rs ≤ 4294967295
  rn : 0 ≤ a.rn ∧ a.rn ≤ 4294967295
  ws : 0 ≤ a.ws ∧ a.ws ≤ 4294967295
  wn : 0 ≤ a.wn ∧ a.wn ≤ 4294967295
  ts : 0 ≤ a.ts ∧ a.ts ≤ 4294967295
  tn : 0 ≤ a.tn ∧ a.tn ≤ 4294967295

/-- May it be told? -/
def kok (k : Int) : Bool := decide (k = 1) || decide (k = 2) || decide (k = 5)
def amay (a : Atr) : Bool := kok a.kind && decide (a.mode ≤ 4095) && tok a.rn && tok a.wn && tok a.tn

abbrev RawA := Int × Int × Int × Int × Int × Int × Int × Int × Int × Int × Int × Int × Int × Int × Int × Int
def rawC : Codec RawA := (numC 4).seq ((numC 4).seq ((numC 4).seq ((numC 4).seq ((numC 4).seq ((numC 8).seq ((numC 8).seq ((numC 8).seq ((numC 8).seq ((numC 8).seq ((numC 4).seq ((numC 4).seq ((numC 4).seq ((numC 4).seq ((numC 4).seq (numC 4)))))))))))))))
def Atr.raw (a : Atr) : RawA := (a.kind, a.mode, a.links, a.user, a.group, a.size, a.used, 0, 1, a.id, a.rs, a.rn, a.ws, a.wn, a.ts, a.tn)
def ofRaw : RawA → Atr
  | (k, m, l, u, g, s, d, _, _, i, rs, rn, ws, wn, ts, tn) => ⟨k, m, l, u, g, s, d, i, rs, rn, ws, wn, ts, tn⟩
def midRaw : RawA → Bool
  | (_, _, _, _, _, _, _, z, o, _) => z == 0 && o == 1
def attrC : Codec Atr := (rawC.mustC (fun x => midRaw x && amay (ofRaw x))).iso ofRaw Atr.raw (fun y => rfl) (fun x h => by
  obtain ⟨k, m, l, u, g, s, d, z, o, i, rs, rn, ws, wn, ts, tn⟩ := x
  have h2 := h.2
  simp only [Bool.and_eq_true] at h2
  have h3 : z == 0 && o == 1 := h2.1
  simp only [Bool.and_eq_true, beq_iff_eq] at h3
  obtain ⟨rfl, rfl⟩ := h3
  rfl)

theorem raw_ok {a : Atr} (h : a.In) : rawC.ok a.raw := by
  obtain ⟨h1, h2, h3, h4, h5, h6, h7, h8, h9, h10, h11, h12, h13, h14⟩ := h
  have e4 : (256 : Int) ^ 4 = 4294967296 := by decide
  have e8 : (256 : Int) ^ 8 = 18446744073709551616 := by decide
  refine ⟨?_, ?_, ?_, ?_, ?_, ?_, ?_, ?_, ?_, ?_, ?_, ?_, ?_, ?_, ?_, ?_⟩ <;> simp only [Atr.raw, numC, e4, e8] <;> omega
theorem attr_ok {a : Atr} (h : a.In) (hm : amay a = true) : attrC.ok a := ⟨raw_ok h, by show (midRaw a.raw && amay a) = true; rw [hm]; rfl⟩
theorem attr_may {a : Atr} (h : attrC.ok a) : amay a = true := by
  have h2 : (midRaw a.raw && amay (ofRaw a.raw)) = true := h.2
  simp only [Bool.and_eq_true] at h2
  exact h2.2
theorem attr_in {a : Atr} (h : attrC.ok a) : a.In := by
  have h1 : rawC.ok a.raw := h.1
  have e4 : (256 : Int) ^ 4 = 4294967296 := by decide
  have e8 : (256 : Int) ^ 8 = 18446744073709551616 := by decide
  obtain ⟨h1, h2, h3, h4, h5, h6, h7, h8, h9, h10, h11, h12, h13, h14, h15, h16⟩ := h1
  simp only [Atr.raw, numC, e4, e8] at *
  exact ⟨by omega, by omega, by omega, by omega, by omega, by omega, by omega, by omega, by omega, by omega, by omega, by omega, by omega, by omega⟩

/-- The bytes. -/
def aB (a : Atr) : List Int := attrC.enc a
theorem aB_eq (a : Atr) : aB a = bytesOf a.kind 4 ++ (bytesOf a.mode 4 ++ (bytesOf a.links 4 ++ (bytesOf a.user 4 ++ (bytesOf a.group 4 ++ (bytesOf a.size 8 ++ (bytesOf a.used 8 ++ (bytesOf 0 8 ++ (bytesOf 1 8 ++ (bytesOf a.id 8 ++
    (bytesOf a.rs 4 ++ (bytesOf a.rn 4 ++ (bytesOf a.ws 4 ++ (bytesOf a.wn 4 ++ (bytesOf a.ts 4 ++ bytesOf a.tn 4)))))))))))))) := rfl
theorem aB_length (a : Atr) : (aB a).length = 84 := by simp [aB_eq, bytesOf_length]
theorem byt_aB (a : Atr) : Byt (aB a) := attrC.byt a

/-- The place of a number, of a long one. -/
def n4 (zs : List Int) (k : Nat) : Int := be ((zs.drop k).take 4)
def n8 (zs : List Int) (k : Nat) : Int := be ((zs.drop k).take 8)
def rawOf (zs : List Int) : RawA := (n4 zs 0, n4 zs 4, n4 zs 8, n4 zs 12, n4 zs 16, n8 zs 20, n8 zs 28, n8 zs 36, n8 zs 44, n8 zs 52, n4 zs 60, n4 zs 64, n4 zs 68, n4 zs 72, n4 zs 76, n4 zs 80)

theorem fix_raw : rawC.Fix 84 rawOf := by
  have h := fix_seq (fix_num 4) (fix_seq (fix_num 4) (fix_seq (fix_num 4) (fix_seq (fix_num 4) (fix_seq (fix_num 4) (fix_seq (fix_num 8) (fix_seq (fix_num 8) (fix_seq (fix_num 8) (fix_seq (fix_num 8) (fix_seq (fix_num 8) (fix_seq (fix_num 4) (fix_seq (fix_num 4) (fix_seq (fix_num 4) (fix_seq (fix_num 4) (fix_seq (fix_num 4) (fix_num 4)))))))))))))))
  refine ⟨h.few, fun r n hl => (h.all r n hl).trans ?_⟩
  simp only [rawOf, n4, n8, List.drop_drop, List.drop_zero]

/-- 'Get' of what is told of a node, in one step. -/
theorem attr_got (r : List Int) (n : Nat) : (r.length < 84 → (attrC.dec ⟨r, n, 0⟩).2.e = 4) ∧
    (84 ≤ r.length → (midRaw (rawOf r) && amay (ofRaw (rawOf r))) = false → (attrC.dec ⟨r, n, 0⟩).2.e = 5) ∧
    (84 ≤ r.length → (midRaw (rawOf r) && amay (ofRaw (rawOf r))) = true → attrC.dec ⟨r, n, 0⟩ = (ofRaw (rawOf r), ⟨r.drop 84, n + 84, 0⟩)) := by
  refine ⟨fun h => ?_, fun h hp => ?_, fun h hp => ?_⟩
  · show (must _ (rawC.dec ⟨r, n, 0⟩).2).e = 4
    unfold must
    rw [if_neg (by rw [fix_raw.few r n h]; simp)]
    exact fix_raw.few r n h
  · show (must (midRaw (rawC.dec ⟨r, n, 0⟩).1 && amay (ofRaw (rawC.dec ⟨r, n, 0⟩).1)) (rawC.dec ⟨r, n, 0⟩).2).e = 5
    rw [fix_raw.all r n h]
    show (must (midRaw (rawOf r) && amay (ofRaw (rawOf r))) _).e = 5
    rw [hp]
    rfl
  · show (ofRaw (rawC.dec ⟨r, n, 0⟩).1, must (midRaw (rawC.dec ⟨r, n, 0⟩).1 && amay (ofRaw (rawC.dec ⟨r, n, 0⟩).1)) (rawC.dec ⟨r, n, 0⟩).2) = _
    rw [fix_raw.all r n h]
    show (ofRaw (rawOf r), must (midRaw (rawOf r) && amay (ofRaw (rawOf r))) _) = _
    rw [hp]
    rfl

/-- What is to be set. -/
structure Stt where
  (hm : Bool) (mode : Int) (hu : Bool) (user : Int) (hg : Bool) (group : Int) (hs : Bool) (size : Int) (rh rs rn wh ws wn : Int)
def zeroS : Stt := ⟨false, 0, false, 0, false, 0, false, 0, 0, 0, 0, 0, 0, 0⟩
structure Stt.In (a : Stt) : Prop where
  mode : 0 ≤ a.mode ∧ a.mode ≤ 4294967295
  user : 0 ≤ a.user ∧ a.user ≤ 4294967295
  group : 0 ≤ a.group ∧ a.group ≤ 4294967295
  size : 0 ≤ a.size ∧ a.size ≤ 18446744073709551615
  rh : 0 ≤ a.rh ∧ a.rh ≤ 4294967295
  rs : 0 ≤ a.rs ∧ a.rs ≤ 4294967295
  rn : 0 ≤ a.rn ∧ a.rn ≤ 4294967295
  wh : 0 ≤ a.wh ∧ a.wh ≤ 4294967295
  ws : 0 ≤ a.ws ∧ a.ws ≤ 4294967295
  wn : 0 ≤ a.wn ∧ a.wn ≤ 4294967295
def smay (s : Stt) : Bool := decide (s.mode ≤ 4095) && (s.hm || s.mode == 0) && (s.hu || s.user == 0) && (s.hg || s.group == 0) && (s.hs || s.size == 0) && decide (s.rh ≤ 2) && decide (s.wh ≤ 2) &&
  (s.rh == 2 || (s.rs == 0 && s.rn == 0)) && (s.wh == 2 || (s.ws == 0 && s.wn == 0)) && tok s.rn && tok s.wn

abbrev RawS := (Bool × Int) × (Bool × Int) × (Bool × Int) × (Bool × Int) × (Int × Int × Int) × (Int × Int × Int)
def Stt.raw (s : Stt) : RawS := ((s.hm, s.mode), (s.hu, s.user), (s.hg, s.group), (s.hs, s.size), (s.rh, s.rs, s.rn), (s.wh, s.ws, s.wn))
def ofRawS : RawS → Stt
  | ((hm, m), (hu, u), (hg, g), (hs, z), (rh, rs, rn), (wh, ws, wn)) => ⟨hm, m, hu, u, hg, g, hs, z, rh, rs, rn, wh, ws, wn⟩
def modeC : Codec Int := (numC 4).mustC (fun x => decide (x ≤ 4095))
def rawSC : Codec RawS := (optC modeC).seq ((optC (numC 4)).seq ((optC (numC 4)).seq ((optC (numC 8)).seq (howC.seq howC))))
def setC : Codec Stt := rawSC.iso ofRawS Stt.raw (fun y => rfl) (fun x h => rfl)
def sB (s : Stt) : List Int := setC.enc s

/-- What was told ahead and behind. -/
structure Wk where
  (hb : Bool) (size ws wn ts tn : Int) (ha : Bool) (af : Atr)
def zeroW : Wk := ⟨false, 0, 0, 0, 0, 0, false, zeroA⟩
structure Wk.In (a : Wk) : Prop where
  size : 0 ≤ a.size ∧ a.size ≤ 18446744073709551615
  ws : 0 ≤ a.ws ∧ a.ws ≤ 4294967295
  wn : 0 ≤ a.wn ∧ a.wn ≤ 4294967295
  ts : 0 ≤ a.ts ∧ a.ts ≤ 4294967295
  tn : 0 ≤ a.tn ∧ a.tn ≤ 4294967295
  af : a.af.In
def az (a : Atr) : Bool := a.kind == 0 && (a.mode == 0 && (a.links == 0 && (a.user == 0 && (a.group == 0 && (a.size == 0 && (a.used == 0 && (a.id == 0 && (a.rs == 0 && (a.rn == 0 && (a.ws == 0 && (a.wn == 0 && (a.ts == 0 && a.tn == 0))))))))))))
theorem az_iff {a : Atr} : az a = true ↔ a = zeroA := by
  constructor
  · intro h
    obtain ⟨k, m, l, u, g, s, d, i, rs, rn, ws, wn, ts, tn⟩ := a
    simp only [az, Bool.and_eq_true, beq_iff_eq] at h
    obtain ⟨rfl, rfl, rfl, rfl, rfl, rfl, rfl, rfl, rfl, rfl, rfl, rfl, rfl, rfl⟩ := h
    rfl
  · rintro rfl; rfl
def wmay (w : Wk) : Bool := (w.hb || (w.size == 0 && (w.ws == 0 && w.wn == 0) && (w.ts == 0 && w.tn == 0))) && (if w.ha then amay w.af else az w.af) && tok w.wn && tok w.tn
abbrev RawW := (Bool × Int × (Int × Int) × (Int × Int)) × (Bool × Atr)
def Wk.raw (w : Wk) : RawW := ((w.hb, w.size, (w.ws, w.wn), (w.ts, w.tn)), (w.ha, w.af))
def ofRawW : RawW → Wk
  | ((hb, s, (ws, wn), (ts, tn)), (ha, af)) => ⟨hb, s, ws, wn, ts, tn, ha, af⟩
def befC : Codec (Int × (Int × Int) × (Int × Int)) := (numC 8).seq (timC.seq timC)
def rawWC : Codec RawW := (optC befC).seq (optC attrC)
def weakC : Codec Wk := rawWC.iso ofRawW Wk.raw (fun y => rfl) (fun x h => rfl)
def wB (w : Wk) : List Int := weakC.enc w
end Go.Proofs.YtecbhhfncklefaaDoor
