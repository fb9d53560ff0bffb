/- Structs stored as whole rows. -/
import Derived.Test.YtkiplmabjeadgaaGreatBdD5R
import Derived.Test.YtkiplmabjeadgaaGreatBaseR
import Derived.Laws.BytesString
import Derived.Deep.WholeRow
namespace Go.Proofs.YtkiplmabjeadgaaGreat
set_option maxRecDepth 100000
set_option maxHeartbeats 16000000
open Go.ChangeShapes Go.WideShapes Go.ChangeAt Go.RowKit
set_option linter.unusedVariables false
set_option linter.unusedSimpArgs false
structure Ft where
 nm : ByteArray
 on : ByteArray
 ov : ByteArray
 kd : Int
 sd : Int
 x0 : Int
 y0 : Int
 z0 : Int
 x1 : Int
 y1 : Int
 z1 : Int
 ct : Int
 dx : Int
 dy : Int
 dz : Int
def ftc (f : Ft) : List Value:=[.string f.nm,.string f.on,.string f.ov,.int .i64 f.kd,.int .i64 f.sd,.int .i64 f.x0,.int .i64 f.y0,.int .i64 f.z0,.int .i64 f.x1,.int .i64 f.y1,.int .i64 f.z1,.int .i64 f.ct,.int .i64 f.dx,.int .i64 f.dy,.int .i64 f.dz]
def ftv (f : Ft) : Value:=.agg #[.string f.nm,.string f.on,.string f.ov,.int .i64 f.kd,.int .i64 f.sd,.int .i64 f.x0,.int .i64 f.y0,.int .i64 f.z0,.int .i64 f.x1,.int .i64 f.y1,.int .i64 f.z1,.int .i64 f.ct,.int .i64 f.dx,.int .i64 f.dy,.int .i64 f.dz]
theorem ftc_len (f : Ft) : (ftc f).length = 15:=rfl
def ft0 : Ft:=⟨ByteArray.empty,ByteArray.empty,ByteArray.empty,0,0,0,0,0,0,0,0,0,0,0,0⟩
def sEq (s t : ByteArray) : Bool:=s.toList == t.toList
theorem sEq_iff {s t : ByteArray} : sEq s t = true ↔ s = t:=by
 unfold sEq;rw [beq_iff_eq];constructor
 ·intro h
  cases s;cases t
  rw [ByteArray.toList_eq,ByteArray.toList_eq] at h;simp only at h;rw [Array.toList_inj.1 h]
 ·intro h;rw [h]
theorem sEq_refl (s : ByteArray) : sEq s s = true:=sEq_iff.2 rfl
theorem sEq_ne {s t : ByteArray} (h : s ≠ t) : sEq s t = false:=by rw [← Bool.not_eq_true,sEq_iff];exact h
def emp (s : ByteArray) : Bool:=sEq s ⟨#[]⟩
theorem emp_iff {s : ByteArray} : emp s = true ↔ s = ⟨#[]⟩:=sEq_iff
theorem nameB_emp {s : ByteArray} (h : emp s = true) : nameB s = false:=by
 rw [emp_iff.1 h];rfl
theorem nameB_not {s : ByteArray} (h : nameB s = true) : emp s = false:=by
 cases e : emp s with
 | false => rfl
 | true => rw [nameB_emp e] at h;cases h
def inG (x : Int) : Bool:=decide (-24 ≤ x) && decide (x ≤ 24)
def loose (x0 y0 z0 x1 y1 z1 : Int) : Bool:=inG x0 && inG y0 && inG z0 && inG x1 && inG y1 && inG z1 && decide (x0 < x1) && decide (y0 < y1) && decide (z0 < z1)
def ftr (f : Ft) : Bool :=
 nameB f.nm && (emp f.on || nameB f.on) && (emp f.ov || nameB f.ov) &&
 (if f.kd = 1 ∨ f.kd = 2 then
  (if emp f.on then decide (f.sd = 0) else decide (1 ≤ f.sd ∧ f.sd ≤ 6)) && loose f.x0 f.y0 f.z0 f.x1 f.y1 f.z1 && emp f.ov && decide (f.ct = 0 ∧ f.dx = 0 ∧ f.dy = 0 ∧ f.dz = 0)
 else if f.kd = 3 then
  !emp f.ov && emp f.on && decide (f.sd = 0 ∧ f.x0 = 0 ∧ f.y0 = 0 ∧ f.z0 = 0 ∧ f.x1 = 0 ∧ f.y1 = 0 ∧ f.z1 = 0) && decide (1 ≤ f.ct ∧ f.ct ≤ 8) && inG f.dx && inG f.dy && inG f.dz && decide (f.dx ≠ 0 ∨ f.dy ≠ 0 ∨ f.dz ≠ 0)
 else false)
def findN (fs : List Ft) (s : ByteArray) : Option Nat:=fs.findIdx? fun f => sEq f.nm s
def twi (fs : List Ft) : Option Ft:=((List.range fs.length).find? fun i => ((fs.take i).any fun g => sEq g.nm (fs.getD i ft0).nm)).map fun i => fs.getD i ft0
def wrg (fs : List Ft) (f : Ft) : Option ByteArray :=
 if emp f.on = false ∧ findN fs f.on = none then some f.on
 else if emp f.ov = false then
  match findN fs f.ov with
  | none => some f.ov
  | some k => if (fs.getD k ft0).kd = 3 ∨ emp (fs.getD k ft0).on = false then some f.ov else none
 else none
def nmd (fs : List Ft) (f : Ft) : List Nat :=
 (if emp f.on then [] else [(findN fs f.on).getD 0]) ++ (if emp f.ov then [] else [(findN fs f.ov).getD 0])
def nms (fs : List Ft) : List (List Nat):=fs.map (nmd fs)
def Chk (fs : List Ft) (c : Int) (ab : List ByteArray) : Prop :=
 if 4096 < fs.length then c = 2 ∧ ab = []
 else if 30 < fs.length then c = 10 ∧ ab = []
 else match fs.find? fun f => !ftr f with
  | some f => c = 1 ∧ ab = [f.nm]
  | none => match twi fs with
   | some f => c = 7 ∧ ab = [f.nm]
   | none => match fs.find? fun f => (wrg fs f).isSome with
    | some f => c = 6 ∧ ab = [f.nm,(wrg fs f).getD ⟨#[]⟩]
    | none => ∃ b,Bst (sc (nms fs)) fs.length b ∧ ab = b.map (fun i => (fs.getD i ft0).nm) ∧ c = if b = [] then 0 else 9
theorem Chk.uniq {fs : List Ft} {c c' : Int} {ab ab' : List ByteArray} (h : Chk fs c ab) (k : Chk fs c' ab') : c = c' ∧ ab = ab':=by
 unfold Chk at h k
 split at h
 ·rename_i e;rw [if_pos e] at k;exact ⟨h.1.trans k.1.symm,h.2.trans k.2.symm⟩
 rename_i e;rw [if_neg e] at k
 split at h
 ·rename_i e;rw [if_pos e] at k;exact ⟨h.1.trans k.1.symm,h.2.trans k.2.symm⟩
 rename_i e;rw [if_neg e] at k
 split at h
 ·rename_i e;rw [e] at k;exact ⟨h.1.trans k.1.symm,h.2.trans k.2.symm⟩
 rename_i e;rw [e] at k
 simp only at k
 split at h
 ·rename_i e;rw [e] at k;exact ⟨h.1.trans k.1.symm,h.2.trans k.2.symm⟩
 rename_i e;rw [e] at k
 simp only at k
 split at h
 ·rename_i e;rw [e] at k;exact ⟨h.1.trans k.1.symm,h.2.trans k.2.symm⟩
 rename_i e;rw [e] at k
 simp only at k;obtain ⟨b,h1,h2,h3⟩:=h;obtain ⟨d,k1,k2,k3⟩:=k;have:=h1.uniq k1;subst this;exact ⟨h3.trans k3.symm,h2.trans k2.symm⟩
theorem findN_lt {fs : List Ft} {s : ByteArray} {k : Nat} (h : findN fs s = some k) : k < fs.length:=by
 unfold findN at h;rw [List.findIdx?_eq_some_iff_findIdx_eq] at h;exact h.1
theorem nms_one {fs : List Ft} (hr : ∀ f ∈ fs,ftr f = true) (hw : ∀ f ∈ fs,wrg fs f = none) : Oneful (nms fs):=by
 have len : (nms fs).length = fs.length:=by simp [nms]
 constructor
 ·intro l hl
  obtain ⟨f,hf,rfl⟩:=List.mem_map.1 hl;have:=hr f hf;unfold ftr at this;unfold nmd
  cases h1 : emp f.on <;> cases h2 : emp f.ov <;> simp [h1,h2] at this ⊢
 ·intro l hl x hx
  obtain ⟨f,hf,rfl⟩:=List.mem_map.1 hl;rw [len];have:=hw f hf;unfold wrg at this;unfold nmd at hx
  rcases List.mem_append.1 hx with h | h
  ·cases h1 : emp f.on with
   | true => simp [h1] at h
   | false =>
    cases h2 : findN fs f.on with
    | none => simp [h1,h2] at this
    | some k =>
     simp [h1,h2] at h;subst h;exact findN_lt h2
  ·cases h1 : emp f.ov with
   | true => simp [h1] at h
   | false =>
    cases h2 : findN fs f.ov with
    | none =>
     rw [h1,h2] at this
     split at this
     ·cases this
     ·simp at this
    | some k =>
     simp [h1,h2] at h;subst h;exact findN_lt h2
theorem wpl_storeRow {P : Program} {ops : Array Oper} {rest : List Oper} {o : Oper} {a : Act} {w : World} {Q : Exit → Act → World → Prop} (hgd : o.guard = none) (ty : TypeId) (x y : Operand) (ho : o.op = .store ty x y)
  (g : Nat) (cells : List Value) (hx : a.eval x = .pointer (some ⟨g,0,none⟩)) (hy : a.eval y = .agg cells.toArray)
  (t : TypeId) (old : List Value) (hg : vb w g t old) (hi : (P.info? ty).map (·.size) = some cells.length)
  (hold : old.length = cells.length) (h1 : ∀ v ∈ cells,v.oneCell' = true)
  (h : wpList P ops Q rest (a.put o.dst undef) (w.setRow g cells.toArray)) : wpList P ops Q (o :: rest) a w :=
 wpList_plain hgd fun _ hK => wp_store_row ty x y ho g cells.toArray hx hy t old.toArray hg (by simpa using hi) (by simpa using hold) (by simpa using h1) (hK _ _ h)
theorem wpl_storeRowA {P : Program} {ops : Array Oper} {rest : List Oper} {o : Oper} {a : Act} {w : World} {Q : Exit → Act → World → Prop} (hgd : o.guard = none) (ty : TypeId) (x y : Operand) (ho : o.op = .store ty x y)
  (g : Nat) (cells : Array Value) (hx : a.eval x = .pointer (some ⟨g,0,none⟩)) (hy : a.eval y = .agg cells)
  (t : TypeId) (old : Array Value) (hg : w.heap[g]? = some (.cells old t (0,0))) (hi : (P.info? ty).map (·.size) = some cells.size)
  (hold : old.size = cells.size) (h1 : cells.all (·.oneCell') = true)
  (h : wpList P ops Q rest (a.put o.dst undef) (w.setRow g cells)) : wpList P ops Q (o :: rest) a w :=
 wpList_plain hgd fun _ hK => wp_store_row ty x y ho g cells hx hy t old hg hi hold h1 (hK _ _ h)
theorem vb_row {w : World} {g t : Nat} {vs : List Value} (h : vb w g t vs) (cs : List Value) : vb (w.setRow g cs.toArray) g t cs:=by
 show (w.heap.modify g _)[g]? = _
 rw [Array.getElem?_modify,if_pos rfl,h];rfl
theorem bel_row {B : Nat} {a w : World} (h : Below B a w) {g : Nat} (hg : B ≤ g) (cs : Array Value) : Below B a (w.setRow g cs) :=
 h.trans ⟨rfl,rfl,rfl,by simp [World.setRow],fun k hk => by
  show (w.heap.modify g _)[k]? = _
  rw [Array.getElem?_modify,if_neg (by omega)]⟩
end Go.Proofs.YtkiplmabjeadgaaGreat
