import PyProof.Rows.All
import Wide.All
import OpenK.AllK
import Wide.FinOn
import PyProof.EqAt
import PyProof.EqKinds
import PyProof.TupleCall
import KE.BitLaws
import Open.SpecLaws
import KE.OsHead
import KE.OsGo
import KE.KSortTupG
import KE.KLam
import KE.KMinKey
import KE.IntBitsLaws
import KE.KDictList
import PySem.Challenge.RW_ringfive_s17_symbol
set_option Elab.async false
set_option linter.all false
set_option maxRecDepth 100000
set_option Elab.async false
set_option linter.all false
set_option maxRecDepth 100000
namespace L2
open PySem PySem.Spec PyProof.Rows
abbrev Key := Sum Int Str
def keyIs : Key → Value → Bool
  | .inl k, v => Value.isInt k v
  | .inr x, v => Value.isStrOf x v
def keyH (w : World) : Key → Int
  | .inl k => hashInt k
  | .inr x => hashStr w x
theorem keyIs_shape : ∀ {k : Key} {v : Value}, keyIs k v = true → (∃ i t, k = Sum.inl i ∧ v = Value.int i t) ∨ (∃ x t, k = Sum.inr x ∧ v = Value.str x t)
  | .inl i, v, h => by
    obtain ⟨t, e⟩ := Value.isInt_shape (k := i) (v := v) h
    exact .inl ⟨i, t, rfl, e⟩
  | .inr x, v, h => by
    obtain ⟨t, e⟩ := Value.isStrOf_shape (x := x) (v := v) h
    exact .inr ⟨x, t, rfl, e⟩
theorem keyIs_int (i : Int) (t : Tok) : keyIs (.inl i) (.int i t) = true := by simp [keyIs, Value.isInt]
theorem keyIs_str (x : Str) (t : Tok) : keyIs (.inr x) (.str x t) = true := by simp [keyIs, Value.isStrOf]
theorem key_ll (a b : Int) : decide ((Sum.inl a : Key) = Sum.inl b) = (a == b) := by
  by_cases e : a = b
  · subst e; simp
  · have h : ¬ (Sum.inl a : Key) = Sum.inl b := fun q => e (Sum.inl.inj q)
    rw [decide_eq_false h]
    exact (beq_eq_false_iff_ne.mpr e).symm
theorem key_rr (a b : Str) : decide ((Sum.inr a : Key) = Sum.inr b) = decide (a = b) := by
  by_cases e : a = b
  · subst e; simp
  · have h : ¬ (Sum.inr a : Key) = Sum.inr b := fun q => e (Sum.inr.inj q)
    rw [decide_eq_false h, decide_eq_false e]
theorem key_lr (a : Int) (b : Str) : decide ((Sum.inl a : Key) = Sum.inr b) = false := decide_eq_false (fun q => nomatch q)
theorem key_rl (a : Str) (b : Int) : decide ((Sum.inr a : Key) = Sum.inl b) = false := decide_eq_false (fun q => nomatch q)
def mixKind (prog : Program) (w : World) : PySem.KeyKind prog w Key where
  is := keyIs
  hash := keyH w
  inj := fun v a b ha hb => by
    rcases keyIs_shape ha with ⟨i, t, rfl, rfl⟩ | ⟨x, t, rfl, rfl⟩
    · rcases keyIs_shape hb with ⟨j, u, rfl, e⟩ | ⟨y, u, rfl, e⟩
      · injection e with e1 _; rw [e1]
      · exact nomatch e
    · rcases keyIs_shape hb with ⟨j, u, rfl, e⟩ | ⟨y, u, rfl, e⟩
      · exact nomatch e
      · injection e with e1 _; rw [e1]
  byValue := fun k v h => by
    rcases keyIs_shape h with ⟨i, t, rfl, rfl⟩ | ⟨x, t, rfl, rfl⟩ <;> rfl
  pyHash := fun hv h => by
    rcases keyIs_shape hv with ⟨i, t, rfl, rfl⟩ | ⟨x, t, rfl, rfl⟩
    · exact wpAny_pyHash_int h
    · exact wpAny_pyHash_str h
  eqBool := fun hu hv h => by
    rcases keyIs_shape hu with ⟨i, t, rfl, rfl⟩ | ⟨x, t, rfl, rfl⟩
    · rcases keyIs_shape hv with ⟨j, u, rfl, rfl⟩ | ⟨y, u, rfl, rfl⟩
      · rw [key_ll] at h; exact wpAny_eqBool_int h
      · rw [key_lr] at h; exact SeqAt.EqAt.int_str i t y u _ _ _ _ h
    · rcases keyIs_shape hv with ⟨j, u, rfl, rfl⟩ | ⟨y, u, rfl, rfl⟩
      · rw [key_rl] at h; exact SeqAt.EqAt.str_int x t j u _ _ _ _ h
      · rw [key_rr] at h; exact wpAny_eqBool_str h
  «strs» := fun k x t v h => by
    rcases keyIs_shape h with ⟨i, u, rfl, e⟩ | ⟨y, u, rfl, e⟩
    · exact nomatch e
    · injection e with e1 _
      subst e1
      cases v <;> rfl
theorem mixKind_int (prog : Program) (w : World) (i : Int) (t : Tok) : (mixKind prog w).is (.inl i) (.int i t) = true := keyIs_int i t
theorem mixKind_str (prog : Program) (w : World) (x : Str) (t : Tok) : (mixKind prog w).is (.inr x) (.str x t) = true := keyIs_str x t
end L2
namespace L2
open PySem PySem.Spec PyProof.Rows
inductive V where
  | non | bl (b : Bool) | int (i : Int) | str (x : Str) | byt (b : Array UInt8) | flt (b : UInt64) | ref (a : Addr) | ty (n : String)
  deriving DecidableEq
def RelV : V → Value → Prop
  | .non, u => u = Value.none
  | .bl b, u => u = Value.bool b
  | .int i, u => ∃ t, u = Value.int i t
  | .str x, u => ∃ t, u = Value.str x t
  | .byt b, u => ∃ t, u = Value.bytes b t
  | .flt b, u => ∃ t, u = Value.float b t
  | .ref a, u => u = Value.ref a
  | .ty n, u => u = Value.type n
abbrev Vals : List V → List Value → Prop := Paired RelV
theorem Vals.length {xs : List V} {us : List Value} (r : Vals xs us) : xs.length = us.length := Paired.length r
theorem Vals.get : ∀ {xs : List V} {us : List Value} {i : Nat} {x : V}, Vals xs us → xs[i]? = some x → ∃ u, us[i]? = some u ∧ RelV x u
  | _, _, _, _, .nil, e => by simp at e
  | _, _, 0, _, .cons r _, e => by simp at e; subst e; exact ⟨_, rfl, r⟩
  | _, _, i + 1, x, .cons _ t, e => by
    obtain ⟨u, h1, h2⟩ := Vals.get (i := i) (x := x) t (by simpa using e)
    exact ⟨u, by simpa using h1, h2⟩
theorem Vals.set {x : V} {u : Value} (r : RelV x u) : ∀ {xs : List V} {us : List Value} (i : Nat), Vals xs us → Vals (xs.set i x) (us.set i u)
  | _, _, _, .nil => .nil
  | _, _, 0, .cons _ t => .cons r t
  | _, _, i + 1, .cons q t => .cons q (Vals.set r i t)
theorem Vals.append : ∀ {xs ys : List V} {us ws : List Value}, Vals xs us → Vals ys ws → Vals (xs ++ ys) (us ++ ws)
  | _, _, _, _, .nil, s => s
  | _, _, _, _, .cons r t, s => .cons r (Vals.append t s)
theorem Vals.take : ∀ {xs : List V} {us : List Value} (n : Nat), Vals xs us → Vals (xs.take n) (us.take n)
  | _, _, 0, _ => .nil
  | _, _, _ + 1, .nil => .nil
  | _, _, n + 1, .cons r t => .cons r (Vals.take n t)
theorem Vals.drop : ∀ {xs : List V} {us : List Value} (n : Nat), Vals xs us → Vals (xs.drop n) (us.drop n)
  | _, _, 0, r => r
  | _, _, _ + 1, .nil => .nil
  | _, _, n + 1, .cons _ t => Vals.drop n t
def RelO : Option V → Option Value → Prop
  | some v, some u => RelV v u
  | none, none => True
  | _, _ => False
def KV {κ : Type} : List (κ × V) → List (κ × Value) → Prop := Paired fun (p : κ × V) (q : κ × Value) => p.1 = q.1 ∧ RelV p.2 q.2
def kV : Key → V
  | .inl i => .int i
  | .inr x => .str x
inductive HO where
  /-- a list -/
  | lst (xs : List V)
  /-- a tuple (never changes) -/
  | tup (xs : List V)
  /-- a dict whose keys are ints and texts; one whose keys are tuples of ints and texts (the empty one is both) -/
  | dK (kvs : List (Key × V)) | dT (kvs : List (List Key × V))
  /-- a set of ints: its members, its size -/
  | set (S : Int → Bool) (n : Nat)
  /-- an instance of the class at C, its dict at dx, its attributes -/
  | ins (C dx : Addr) (fs : List (Str × V))
  /-- the dict of the instance at x -/
  | own (x : Addr)
  /-- the dict of an exception -/
  | xd (fs : List (Str × V))
  /-- a bound method, f of x -/
  | met (f x : Addr)
  /-- a range object lo, lo + 1, .. below hi -/
  | rng (lo hi : Int)
  /-- a thing that is known to the object (the script; a dict while a loop walks it): read, never written while it is so -/
  | frz (o : Obj) (u : HO)
  /-- a code object's table -/
  | tbl (ps : Array Value)
  /-- any other thing, by what is true of its one object (a def of one's own: SetO a S n := HO.ext fun h => ..) -/
  | ext (φ : Heap → Prop)
abbrev Hp := Addr → Option HO
def upd (H : Hp) (a : Addr) (o : HO) : Hp := fun b => if b = a then some o else H b
theorem upd_same {H : Hp} {a : Addr} {o : HO} : upd H a o a = some o := by unfold upd; rw [if_pos rfl]
theorem upd_ne {H : Hp} {a b : Addr} {o : HO} (h : b ≠ a) : upd H a o b = H b := by unfold upd; rw [if_neg h]
theorem ne_of {H : Hp} {a b : Addr} {o u : HO} (h : H a = some o) (h' : H b = some u) (d : o ≠ u) : a ≠ b := by
  intro e; subst e; rw [h] at h'; exact d (Option.some.inj h')
theorem ne_of_none {H : Hp} {a b : Addr} {o : HO} (h : H a = some o) (h' : H b = none) : a ≠ b := by
  intro e; subst e; rw [h] at h'; cases h'
section
variable (P : Program) (w : World)
def ObjOk (H : Hp) (h : Heap) (a : Addr) : HO → Prop
  | .lst xs => xs.length ≤ sizeLine ∧ ∃ (its : List Value) (n : Nat), Vals xs its ∧ h.get? a = some { cls := .type "list", data := .seq its.toArray n }
  | .tup xs => xs.length ≤ sizeLine ∧ ∃ its : List Value, Vals xs its ∧ IsTup h a its.toArray
  | .dK kvs => kvs.length ≤ sizeLine ∧ (a == sysModules) = false ∧ ∃ vs, KV kvs vs ∧ h.DictOf (mixKind P w) a vs
  | .dT kvs => kvs.length ≤ sizeLine ∧ (a == sysModules) = false ∧ ∃ xs : List (List Key × Addr × Value),
      Paired (fun (p : List Key × V) (q : List Key × Addr × Value) => p.1 = q.1 ∧ H q.2.1 = some (.tup (p.1.map kV)) ∧ RelV p.2 q.2.2) kvs xs ∧
      ∃ o es ep, h.get? a = some o ∧ o.ExactDict ∧ o.data = .dict es ep ∧ es.toList = xs.map (entryOfKey (tupleKind (mixKind P w))) ∧ (xs.map (·.1)).Nodup
  | .set S n => h.SetOf (intKind P w) a S n
  | .ins C dx fs => H dx = some (.own a) ∧ fs.length ≤ 1000 ∧ dx ≠ a ∧ h.get? a = some (PySem.W.instObj C dx) ∧
      ∃ mA, h.Ns1 dx mA ∧ (∀ f, RelO (fs.lookup f) (mA f)) ∧ PySem.Within mA (fs.map (·.1))
  | .own _ => ∃ o, h.get? a = some o
  | .xd fs => ∃ mA, h.Ns1 a mA ∧ ∀ f, RelO (fs.lookup f) (mA f)
  | .rng lo hi => ∃ t u v, h.get? a = some { cls := .type "range", data := .fields #[.int lo t, .int hi u, .int 1 v] }
  | .frz o u => h.get? a = some o ∧ ObjOk H h a u
  | .tbl ps => h.get? a = some { cls := .none, data := .fields ps }
  | .met f x => h.get? a = some (PySem.W.methodObj (.ref f) (.ref x))
  | .ext φ => φ h ∧ (∃ o, h.get? a = some o) ∧ ∀ h1 h2 : Heap, φ h1 → (∀ o, h1.get? a = some o → h2.get? a = some o) → φ h2
def HOk (H : Hp) (h : Heap) : Prop := ∀ a o, H a = some o → ObjOk P w H h a o
end
section
variable {P : Program} {w : World} {H H' : Hp} {h h' : Heap} {a : Addr} {o : HO}
theorem ObjOk.lt (x : ObjOk P w H h a o) : a < h.objs.size := by
  cases o with
  | lst xs => obtain ⟨_, _, _, _, e⟩ := x; exact Heap.lt_size e
  | tup xs => obtain ⟨_, _, _, p⟩ := x; exact p.lt
  | dK kvs => obtain ⟨_, _, _, _, o, _, _, e, _⟩ := x; exact Heap.lt_size e
  | dT kvs => obtain ⟨_, _, _, _, o, _, _, e, _⟩ := x; exact Heap.lt_size e
  | set S n => obtain ⟨o, _, _, _, e, _⟩ := x; exact Heap.lt_size e
  | ins C dx fs => obtain ⟨_, _, _, e, _⟩ := x; exact Heap.lt_size e
  | own y => obtain ⟨_, e⟩ := x; exact Heap.lt_size e
  | xd fs => obtain ⟨_, ⟨_, _, _, e, _⟩, _⟩ := x; exact Heap.lt_size e
  | rng lo hi => obtain ⟨_, _, _, e⟩ := x; exact Heap.lt_size e
  | frz ob u => obtain ⟨e, _⟩ := x; exact Heap.lt_size e
  | tbl ps => exact Heap.lt_size (show h.get? a = some _ from x)
  | met f y => exact Heap.lt_size (show h.get? a = some _ from x)
  | ext φ => obtain ⟨_, ⟨_, e⟩, _⟩ := x; exact Heap.lt_size e
theorem Paired.mapP {α β : Type} {F G : α → β → Prop} : ∀ {l₁ : List α} {l₂ : List β}, Paired F l₁ l₂ → (∀ a b, F a b → G a b) → Paired G l₁ l₂
  | _, _, .nil, _ => .nil
  | _, _, .cons r t, f => .cons (f _ _ r) (Paired.mapP t f)
theorem ObjOk.stay (x : ObjOk P w H h a o) (k : ∀ b u, (b = a ∨ H b = some (.own a)) → h.get? b = some u → h'.get? b = some u)
    (ho : ∀ b, H b = some (.own a) → H' b = some (.own a)) (ht : ∀ b xs, H b = some (.tup xs) → H' b = some (.tup xs)) : ObjOk P w H' h' a o := by
  induction o with
  | lst xs => obtain ⟨z, its, n, r, e⟩ := x; exact ⟨z, its, n, r, k _ _ (.inl rfl) e⟩
  | tup xs => obtain ⟨z, its, r, ob, e, c⟩ := x; exact ⟨z, its, r, ob, k _ _ (.inl rfl) e, c⟩
  | dK kvs => obtain ⟨z, y, vs, r, ob, es, ep, e, c⟩ := x; exact ⟨z, y, vs, r, ob, es, ep, k _ _ (.inl rfl) e, c⟩
  | dT kvs =>
    obtain ⟨z, y, xs, r, ob, es, ep, e, c⟩ := x
    exact ⟨z, y, xs, Paired.mapP r fun p q z => ⟨z.1, ht _ _ z.2.1, z.2.2⟩, ob, es, ep, k _ _ (.inl rfl) e, c⟩
  | set S n => obtain ⟨ob, es, ep, t, e, c⟩ := x; exact ⟨ob, es, ep, t, k _ _ (.inl rfl) e, c⟩
  | ins C dx fs =>
    obtain ⟨d, z, ne, e, mA, ⟨od, es, ep, e2, c⟩, r⟩ := x
    exact ⟨ho _ d, z, ne, k _ _ (.inl rfl) e, mA, ⟨od, es, ep, k _ _ (.inr d) e2, c⟩, r⟩
  | own y => obtain ⟨ob, e⟩ := x; exact ⟨ob, k _ _ (.inl rfl) e⟩
  | xd fs => obtain ⟨mA, ⟨od, es, ep, e, c⟩, r⟩ := x; exact ⟨mA, ⟨od, es, ep, k _ _ (.inl rfl) e, c⟩, r⟩
  | rng lo hi => obtain ⟨t, u, v, e⟩ := x; exact ⟨t, u, v, k _ _ (.inl rfl) e⟩
  | frz ob u ih => obtain ⟨e, q⟩ := x; exact ⟨k _ _ (.inl rfl) e, ih q⟩
  | tbl ps =>
    have e : h.get? a = some { cls := .none, data := .fields ps } := x
    show h'.get? a = some { cls := .none, data := .fields ps }
    exact k a _ (.inl rfl) e
  | met f y =>
    have e : h.get? a = some (PySem.W.methodObj (.ref f) (.ref y)) := x
    show h'.get? a = some (PySem.W.methodObj (.ref f) (.ref y))
    exact k a _ (.inl rfl) e
  | ext φ => obtain ⟨p, ⟨o, e⟩, st⟩ := x; exact ⟨st _ _ p fun o q => k _ _ (.inl rfl) q, ⟨o, k _ _ (.inl rfl) e⟩, st⟩
theorem HOk.lt (x : HOk P w H h) (e : H a = some o) : a < h.objs.size := (x a o e).lt
theorem HOk.fresh (x : HOk P w H h) (e : h.objs.size ≤ a) : H a = none := by
  cases q : H a with
  | none => rfl
  | some u => exact absurd (Nat.lt_of_lt_of_le (x.lt q) e) (Nat.lt_irrefl _)
theorem HOk.kept (x : HOk P w H h) (k : ∀ b u, h.get? b = some u → h'.get? b = some u) : HOk P w H h' := fun a o e =>
  (x a o e).stay (fun b u _ q => k b u q) (fun _ q => q) fun _ _ q => q
theorem HOk.laid (x : HOk P w H h) (k : ∀ b u, h.get? b = some u → h'.get? b = some u) (hp : h.objs.size ≤ a) (new : ObjOk P w (upd H a o) h' a o) : HOk P w (upd H a o) h' := fun b u e => by
  have hn := x.fresh hp
  by_cases hb : b = a
  · subst hb; rw [upd_same] at e; cases e; exact new
  · rw [upd_ne hb] at e
    exact (x b u e).stay (fun c v _ q => k c v q) (fun c q => by rw [upd_ne (ne_of_none q hn)]; exact q) fun c xs q => by rw [upd_ne (ne_of_none q hn)]; exact q
end
def Rd (H : Hp) (a : Addr) (u : HO) : Prop := H a = some u ∨ ∃ o, H a = some (.frz o u)
theorem Rd.of {H : Hp} {a : Addr} {u : HO} (h : H a = some u) : Rd H a u := .inl h
theorem Rd.ok {P : Program} {w : World} {H : Hp} {h : Heap} {a : Addr} {u : HO} (r : Rd H a u) (x : HOk P w H h) : ObjOk P w H h a u := by
  rcases r with r | ⟨o, r⟩
  · exact x a u r
  · obtain ⟨_, q⟩ := x a _ r
    exact q
def Mut : Option HO → Prop
  | some (.lst _) => True
  | some (.dK _) => True
  | some (.dT _) => True
  | some (.set _ _) => True
  | some (.ins _ _ _) => True
  | some (.ext _) => True
  | _ => False
section
variable {P : Program} {w : World} {H : Hp} {h h' : Heap} {x e : Addr} {o' : HO}
theorem HOk.write (ok : HOk P w H h) (mu : Mut (H x)) (he : e = x ∨ H e = some (.own x)) (k : ∀ b u, b ≠ e → h.get? b = some u → h'.get? b = some u) (heo : ∃ u, h'.get? e = some u)
    (new : ObjOk P w (upd H x o') h' x o') : HOk P w (upd H x o') h' := fun b u q => by
  have nown : ∀ c y, H c = some (.own y) → c ≠ x := fun c y r z => by subst z; rw [r] at mu; exact mu
  have ntup : ∀ c xs, H c = some (.tup xs) → c ≠ x := fun c xs r z => by subst z; rw [r] at mu; exact mu
  by_cases hb : b = x
  · subst hb; rw [upd_same] at q; cases q; exact new
  · rw [upd_ne hb] at q
    by_cases hbe : b = e
    · have q' : H b = some (.own x) := by
        rcases he with z | z
        · exact absurd (hbe.trans z) hb
        · rw [hbe]; exact z
      rw [q] at q'; cases q'
      obtain ⟨v, hv⟩ := heo
      exact ⟨v, by rw [hbe]; exact hv⟩
    · refine (ok b u q).stay (fun c v hc r => k c v ?_ r) (fun c r => by rw [upd_ne (nown c b r)]; exact r) fun c xs r => by rw [upd_ne (ntup c xs r)]; exact r
      rcases hc with rfl | hc
      · exact hbe
      · rintro rfl
        rcases he with z | z
        · exact nown c b hc z
        · rw [hc] at z; cases z; exact hb rfl
end
structure Un (fs ex : List Addr) (H H' : Hp) (h h' : Heap) : Prop where
  keep : ∀ b o, h.get? b = some o → H b = none → b ∉ fs → b ∉ ex → h'.get? b = some o
  slot : ∀ b o, h.get? b = some o → H b = none → b ∈ fs → b ∉ ex → ∃ sl, h'.get? b = some { o with slots := sl }
  free : ∀ b o, h.get? b = some o → H b = none → b ∉ ex → H' b = none
  there : ∀ b o, h.get? b = some o → b ∉ ex → ∃ o', h'.get? b = some o'
  tups : ∀ b xs, H b = some (.tup xs) → H' b = some (.tup xs)
  frzs : ∀ b o u, H b = some (.frz o u) → H' b = some (.frz o u)
  tbls : ∀ b ps, H b = some (.tbl ps) → ∃ more, H' b = some (.tbl (ps ++ more))
section
variable {fs fs' ex ex' : List Addr} {H H1 H2 : Hp} {h h1 h2 h' : Heap} {a x e : Addr} {o : HO}
theorem Un.any (u : Un fs ex H H1 h h1) {b : Addr} {ob : Obj} (q : h.get? b = some ob) (n : H b = none) (hx : b ∉ ex) : ∃ sl, h1.get? b = some { ob with slots := sl } := by
  by_cases hb : b ∈ fs
  · exact u.slot b ob q n hb hx
  · exact ⟨ob.slots, u.keep b ob q n hb hx⟩
theorem Un.trans (a : Un fs ex H H1 h h1) (b : Un fs ex H1 H2 h1 h2) : Un fs ex H H2 h h2 where
  keep := fun c ob q n hc hx => b.keep c ob (a.keep c ob q n hc hx) (a.free c ob q n hx) hc hx
  slot := fun c ob q n hc hx => by
    obtain ⟨sl, e1⟩ := a.slot c ob q n hc hx
    obtain ⟨sl', e2⟩ := b.slot c _ e1 (a.free c ob q n hx) hc hx
    exact ⟨sl', e2⟩
  free := fun c ob q n hx => by
    obtain ⟨o', e1⟩ := a.there c ob q hx
    exact b.free c o' e1 (a.free c ob q n hx) hx
  there := fun c ob q hx => by
    obtain ⟨o', e1⟩ := a.there c ob q hx
    exact b.there c o' e1 hx
  tups := fun c xs q => b.tups c xs (a.tups c xs q)
  frzs := fun c ob xs q => b.frzs c ob xs (a.frzs c ob xs q)
  tbls := fun c ps q => by
    obtain ⟨m1, e1⟩ := a.tbls c ps q
    obtain ⟨m2, e2⟩ := b.tbls c _ e1
    exact ⟨m1 ++ m2, by rw [e2, Array.append_assoc]⟩
theorem Un.kept (k : ∀ b u, h.get? b = some u → h'.get? b = some u) : Un fs ex H H h h' :=
  ⟨fun b ob q _ _ _ => k b ob q, fun b ob q _ _ _ => ⟨ob.slots, k b ob q⟩, fun _ _ _ n _ => n, fun b ob q _ => ⟨ob, k b ob q⟩, fun _ _ q => q, fun _ _ _ q => q, fun _ ps q => ⟨#[], by rw [q]; simp⟩⟩
theorem Un.refl : Un fs ex H H h h := Un.kept fun _ _ q => q
theorem Un.laid (k : ∀ b u, h.get? b = some u → h'.get? b = some u) (hp : h.objs.size ≤ a) (hn : H a = none) : Un fs ex H (upd H a o) h h' where
  keep := fun b u q _ _ _ => k b u q
  slot := fun b u q _ _ _ => ⟨u.slots, k b u q⟩
  free := fun b u q n _ => by rw [upd_ne (Nat.ne_of_lt (Nat.lt_of_lt_of_le (Heap.lt_size q) hp))]; exact n
  there := fun b u q _ => ⟨u, k b u q⟩
  tups := fun b xs q => by rw [upd_ne (ne_of_none q hn)]; exact q
  frzs := fun b u xs q => by rw [upd_ne (ne_of_none q hn)]; exact q
  tbls := fun b ps q => ⟨#[], by rw [upd_ne (ne_of_none q hn), q]; simp⟩
theorem Un.write (mu : Mut (H x)) (he : e = x ∨ H e = some (.own x)) (k : ∀ b u, b ≠ e → h.get? b = some u → h'.get? b = some u) (heo : ∃ u, h'.get? e = some u) : Un fs ex H (upd H x o) h h' := by
  have hx : ∀ b, H b = none → b ≠ x := fun b n z => by subst z; rw [n] at mu; exact mu
  have hb : ∀ b, H b = none → b ≠ e := fun b n z => by
    subst z
    rcases he with r | r
    · exact hx b n r
    · rw [n] at r; cases r
  have hm : ∀ b u, H b = some u → ¬ Mut (some u) → b ≠ x := fun b u q nm z => by subst z; rw [q] at mu; exact nm mu
  refine ⟨fun b u q n _ _ => k b u (hb b n) q, fun b u q n _ _ => ⟨u.slots, k b u (hb b n) q⟩, fun b u q n _ => by rw [upd_ne (hx b n)]; exact n, fun b u q _ => ?_,
    fun b xs q => by rw [upd_ne (hm b _ q fun z => z)]; exact q, fun b u xs q => by rw [upd_ne (hm b _ q fun z => z)]; exact q, fun b ps q => ⟨#[], by rw [upd_ne (hm b _ q fun z => z), q]; simp⟩⟩
  by_cases hbe : b = e
  · subst hbe; exact heo
  · exact ⟨u, k b u hbe q⟩
theorem Un.mono (u : Un fs ex H H1 h h1) (hs : ∀ b ∈ fs, b ∈ fs') (hx : ∀ b ∈ ex, b ∈ ex') : Un fs' ex' H H1 h h1 :=
  ⟨fun b ob q n hb he => u.keep b ob q n (fun z => hb (hs b z)) fun z => he (hx b z), fun _ _ q n _ he => u.any q n fun z => he (hx _ z), fun b ob q n he => u.free b ob q n fun z => he (hx b z), fun b ob q he => u.there b ob q fun z => he (hx b z), u.tups, u.frzs, u.tbls⟩
end
def trk (h : Heap) (H : Hp) : List Addr := (List.range h.objs.size).filter fun a => (H a).isSome
def hidT (h : Heap) (H : Hp) : Heap := PySem.W.hideAll h (trk h H)
theorem hidT_size (h : Heap) (H : Hp) : (hidT h H).objs.size = h.objs.size := PySem.W.hideAll_size _ _
theorem hidT_get {h : Heap} {H : Hp} {b : Addr} {o : Obj} (e : h.get? b = some o) (n : H b = none) : (hidT h H).get? b = some o :=
  PySem.W.hideAll_get _ e fun hm => by
    have q : (H b).isSome = true := (List.mem_filter.mp hm).2
    rw [n] at q; simp at q
theorem of_hidT {h : Heap} {H : Hp} {b : Addr} {o : Obj} (e : (hidT h H).get? b = some o) : h.get? b = some o ∧ H b = none := by
  have e' : h.get? b = some o := PySem.W.of_hideAll (trk h H) e
  refine ⟨e', ?_⟩
  cases q : H b with
  | none => rfl
  | some x =>
    have hm : b ∈ trk h H := List.mem_filter.mpr ⟨List.mem_range.mpr (Heap.lt_size e'), by simp [q]⟩
    have z : (hidT h H).get? b = none := PySem.W.hideAll_none (trk h H) hm
    rw [z] at e; cases e
def allNews (g h : Heap) (L : Addr) : List (Addr × Obj) := (List.range h.objs.size).filterMap fun a => if a = L ∨ (g.get? a).isSome = true then none else (h.get? a).map fun o => (a, o)
def rest (g h : Heap) (L d : Addr) : List (Addr × Obj) := (allNews g h L).filter fun p => decide (p.1 ≠ d)
end L2
namespace L2
open PySem PySem.Spec PyProof.Rows
structure Mod (K : PySem.W.Frag) (mg : Str → Option Value) (base : Heap) : Prop where
  kin : K.In base
  glob : base.Ns mainGlobals mg
  blt : ∃ mb, base.Ns builtinsNs mb ∧ ∀ x : Str, x ≠ "__name__" → mb x = bootBuiltins x
  nolimit : base.NoLimit
structure Cx where
  prog : Program
  w : World
  K : PySem.W.Frag
  mg : Str → Option Value
  base : Heap
  A : Around
  N : List Str
  s_0 : Shared
  H_0 : Hp
  env : Env
  outer : List Env
  stack : List Env
  ex : List Addr
  fn : Str → Bool
  calm : Bool
  pn : List (Addr × Obj)
  xe : Value → Shared → Prop
def frs (l : List Env) : List Addr := l.filterMap (·.frame)
abbrev Cx.fs (X : Cx) : List Addr := frs X.outer
def Vis (sc : Scope) (x : Str) : Prop := sc.names.lookup x = some .local ∨ sc.names.lookup x = some .cell ∨ sc.names.lookup x = some .free
def Loc (sc : Scope) (x : Str) : Prop := sc.names.lookup x = some .local ∨ sc.names.lookup x = some .cell
def Look (env : Env) (h : Heap) (m : Str → Option Value) (x : Str) (u : Value) : Prop :=
  (env.kindOf x = some .local ∧ m x = some u) ∨ ((env.kindOf x = some .cell ∨ env.kindOf x = some .free) ∧ ∃ c, env.cells.lookup x = some c ∧ h.IsCell c (some u))
structure Cx.Ok (X : Cx) : Prop where
  mod : Mod X.K X.mg X.base
  kind : X.env.scope.kind = .function
  glob : X.env.globals = mainGlobals
  blt : X.env.builtins = builtinsNs
  above : X.s_0.heap.objs.size ≤ X.env.locals
  inj : ∀ x y c, X.env.cells.lookup x = some c → X.env.cells.lookup y = some c → x = y
  has : ∀ x, (X.env.kindOf x = some .cell ∨ X.env.kindOf x = some .free) → ∃ c, X.env.cells.lookup x = some c
  cab : ∀ x c, X.fn x = true → X.env.cells.lookup x = some c → X.s_0.heap.objs.size ≤ c
  hd : X.calm = true → X.A.handled = none
  frames : X.A.frames = some X.stack
  stk : X.stack = X.outer ∨ (X.stack = X.env :: X.outer ∧ X.env.frame = some X.env.locals)
  exf : ∀ b ∈ X.ex, b ≠ X.env.locals ∧ ∀ x c, X.env.cells.lookup x = some c → c ≠ b
  bs : ∀ b o, X.base.get? b = some o → X.s_0.heap.get? b = some o ∧ X.H_0 b = none
  bsz : X.base.objs.size ≤ X.s_0.heap.objs.size
  noex : ∀ b o, X.base.get? b = some o → b ∉ X.ex
  exfs : ∀ b ∈ X.ex, b ∉ X.fs
  funs : X.s_0.heap.FunFrames X.base X.outer
  frf : ∀ b ∈ X.fs, X.H_0 b = none
structure Inv (X : Cx) (pins : List (Addr × Obj)) (σ : List (Option V)) (H : Hp) (s : Shared) : Prop where
  ok : X.Ok
  os : s.os = X.s_0.os
  bare : AllBare s.gens
  base : Un X.fs X.ex X.H_0 H X.s_0.heap s.heap
  loc : ∃ m, s.heap.Ns X.env.locals m ∧ ∀ (i : Nat) (x : Str) (v : V), X.N[i]? = some x → σ[i]? = some (some v) → Vis X.env.scope x → ∃ u, RelV v u ∧ Look X.env s.heap m x u
  cell : ∀ x c, X.env.cells.lookup x = some c → ∃ v, s.heap.IsCell c v
  free : H X.env.locals = none
  freeC : ∀ x c, X.env.cells.lookup x = some c → H c = none
  pin : ∀ p ∈ X.pn ++ pins, s.heap.get? p.1 = some p.2 ∧ H p.1 = none ∧ p.1 ≠ X.env.locals ∧ p.1 ∉ X.fs ∧ ∀ v, p.2.data ≠ .cell v
  hok : HOk X.prog X.w H s.heap
  len : σ.length = X.N.length
section
variable {X : Cx} {pins : List (Addr × Obj)} {σ : List (Option V)} {H H' : Hp} {s : Shared} {h' : Heap}
theorem Cx.Ok.nofr (ok : X.Ok) {b : Addr} {o : Obj} (e : X.base.get? b = some o) : b ∉ X.fs := fun hb => by
  have := (ok.funs.mem hb).1
  rw [e] at this; cases this
theorem Inv.bs (I : Inv X pins σ H s) : ∀ b o, X.base.get? b = some o → s.heap.get? b = some o ∧ H b = none := fun b o e =>
  ⟨I.base.keep b o (I.ok.bs b o e).1 (I.ok.bs b o e).2 (I.ok.nofr e) (I.ok.noex b o e), I.base.free b o (I.ok.bs b o e).1 (I.ok.bs b o e).2 (I.ok.noex b o e)⟩
theorem Inv.bk (I : Inv X pins σ H s) : ∀ b o, X.base.get? b = some o → s.heap.get? b = some o := fun b o e => (I.bs b o e).1
theorem Inv.mod (I : Inv X pins σ H s) : Mod X.K X.mg X.base := I.ok.mod
theorem Inv.kIn (I : Inv X pins σ H s) : X.K.In s.heap := I.ok.mod.kin.keeps I.bk
theorem Inv.nolimit (I : Inv X pins σ H s) : s.heap.NoLimit := I.ok.mod.nolimit.keeps I.bk
theorem Inv.fr (I : Inv X pins σ H s) : ∃ m, Fr X.base X.env.locals s.heap m :=
  let ⟨m, hn, _⟩ := I.loc
  ⟨m, hn, I.bk, Nat.le_trans I.ok.bsz I.ok.above⟩
theorem Inv.lt (I : Inv X pins σ H s) : X.env.locals < s.heap.objs.size := let ⟨_, hn, _⟩ := I.loc; hn.lt
theorem Inv.sz (I : Inv X pins σ H s) : X.s_0.heap.objs.size ≤ s.heap.objs.size := Nat.le_trans I.ok.above (Nat.le_of_lt I.lt)
theorem Inv.nofs (I : Inv X pins σ H s) {a : Addr} (h : s.heap.objs.size ≤ a) : a ∉ X.fs := fun hb => by
  obtain ⟨_, o, ho, _⟩ := I.ok.funs.mem hb
  exact absurd (Nat.lt_of_lt_of_le (Heap.lt_size ho) (Nat.le_trans I.sz h)) (Nat.lt_irrefl _)
theorem Inv.cne (I : Inv X pins σ H s) : ∀ x c, X.env.cells.lookup x = some c → c ≠ X.env.locals := fun x c e z => by
  obtain ⟨v, o, ho, hd⟩ := I.cell x c e
  obtain ⟨m, ⟨o', es, ep, ho', hd', _⟩, _⟩ := I.loc
  rw [z, ho'] at ho; cases ho; rw [hd'] at hd; cases hd
theorem Inv.funs (I : Inv X pins σ H s) : s.heap.FunFrames X.base X.outer := by
  have all : ∀ (l : List Env), (∀ b ∈ frs l, b ∈ X.fs) → X.s_0.heap.FunFrames X.base l → s.heap.FunFrames X.base l := by
    intro l
    induction l with
    | nil => intro _ _; trivial
    | cons env r ih =>
      intro hs hl
      obtain ⟨hk, ⟨L, o, hf, hn, ho, hd⟩, hr⟩ := hl
      have hL : L ∈ X.fs := hs L (by unfold frs; rw [List.filterMap_cons, hf]; exact List.mem_cons_self)
      obtain ⟨sl, e⟩ := I.base.slot L o ho (I.ok.frf L hL) hL fun z => I.ok.exfs L z hL
      exact ⟨hk, ⟨L, _, hf, hn, e, hd⟩, ih (fun b hb => hs b (by unfold frs; rw [List.filterMap_cons, hf]; exact List.mem_cons_of_mem _ hb)) hr⟩
  exact all X.outer (fun _ hb => hb) I.ok.funs
theorem Inv.stack (I : Inv X pins σ H s) : s.heap.FunFrames X.base X.stack := by
  rcases I.ok.stk with e | ⟨e, hf⟩
  · rw [e]; exact I.funs
  · rw [e]
    obtain ⟨m, hn, _⟩ := I.loc
    refine .cons (by rw [I.ok.kind]; decide) hf hn ?_ I.funs
    exact Heap.get?_none_of_le (Nat.le_trans I.ok.bsz I.ok.above)
theorem Inv.stkSub (I : Inv X pins σ H s) : ∀ b ∈ frs X.stack, b ∈ X.env.locals :: X.fs := fun b hb => by
  rcases I.ok.stk with e | ⟨e, hf⟩
  · rw [e] at hb; exact List.mem_cons_of_mem _ hb
  · rw [e] at hb
    unfold frs at hb
    rw [List.filterMap_cons, hf] at hb
    exact hb
theorem Inv.stkFree (I : Inv X pins σ H s) : ∀ b ∈ frs X.stack, H b = none := fun b hb => by
  rcases List.mem_cons.mp (I.stkSub b hb) with e | hb
  · rw [e]; exact I.free
  · obtain ⟨_, o, ho, _⟩ := I.ok.funs.mem hb
    exact I.base.free b o ho (I.ok.frf b hb) fun z => I.ok.exfs b z hb
theorem Inv.step {g' : Array GenState} {t' : Nat} {d' : Drawn} {ch : List Addr} (I : Inv X pins σ H s)
    (hch : ∀ b ∈ ch, (b ∈ X.ex ∨ X.s_0.heap.objs.size ≤ b) ∧ b ≠ X.env.locals ∧ (∀ x c, X.env.cells.lookup x = some c → c ≠ b) ∧ ∀ p ∈ X.pn ++ pins, p.1 ≠ b)
    (keep : ∀ b o, b ≠ X.env.locals → b ∉ X.fs → b ∉ ch → s.heap.get? b = some o → H b = none → h'.get? b = some o)
    (slot : ∀ b o, b ≠ X.env.locals → b ∈ X.fs → b ∉ ch → s.heap.get? b = some o → H b = none → ∃ sl, h'.get? b = some { o with slots := sl }) (free : ∀ b o, b ∉ ch → s.heap.get? b = some o → H b = none → H' b = none)
    (there : ∀ b o, b ∉ ch → s.heap.get? b = some o → ∃ o', h'.get? b = some o')
    (tups : ∀ b xs, H b = some (.tup xs) → H' b = some (.tup xs)) (frzs : ∀ b o u, H b = some (.frz o u) → H' b = some (.frz o u)) (tbls : ∀ b ps, H b = some (.tbl ps) → ∃ more, H' b = some (.tbl (ps ++ more)))
    (ns : ∀ m, s.heap.Ns X.env.locals m → h'.Ns X.env.locals m) (hok : HOk X.prog X.w H' h') (hg : AllBare g') :
    Inv X pins σ H' { s with heap := h', gens := g', drawn := d', toks := t' } := by
  have neL : ∀ b o, X.s_0.heap.get? b = some o → b ≠ X.env.locals := fun b o e => Nat.ne_of_lt (Nat.lt_of_lt_of_le (Heap.lt_size e) I.ok.above)
  have neC : ∀ b o, X.s_0.heap.get? b = some o → b ∉ X.ex → b ∉ ch := fun b o e hx hb => by
    rcases (hch b hb).1 with z | z
    · exact hx z
    · exact absurd (Nat.lt_of_lt_of_le (Heap.lt_size e) z) (Nat.lt_irrefl _)
  have cellK : ∀ x c, X.env.cells.lookup x = some c → ∀ v, s.heap.IsCell c v → h'.IsCell c v := fun x c e v ⟨o, ho, hd⟩ => by
    have nch : c ∉ ch := fun z => (hch c z).2.2.1 x c e rfl
    by_cases hc : c ∈ X.fs
    · obtain ⟨sl, q⟩ := slot c o (I.cne x c e) hc nch ho (I.freeC x c e)
      exact ⟨_, q, hd⟩
    · exact ⟨o, keep c o (I.cne x c e) hc nch ho (I.freeC x c e), hd⟩
  refine ⟨I.ok, I.os, hg, ⟨fun b o e n hb hx => ?_, fun b o e n hb hx => ?_, fun b o e n hx => ?_, fun b o e hx => ?_, fun b xs e => tups b xs (I.base.tups b xs e), fun b o xs e => frzs b o xs (I.base.frzs b o xs e), fun b ps e => ?_⟩, ?_, fun x c e => ?_, ?_, fun x c e => ?_, fun p hp => ?_, hok, I.len⟩
  · exact keep b o (neL b o e) hb (neC b o e hx) (I.base.keep b o e n hb hx) (I.base.free b o e n hx)
  · obtain ⟨sl, e1⟩ := I.base.slot b o e n hb hx
    obtain ⟨sl', e2⟩ := slot b _ (neL b o e) hb (neC b o e hx) e1 (I.base.free b o e n hx)
    exact ⟨sl', e2⟩
  · obtain ⟨o', e1⟩ := I.base.there b o e hx
    exact free b o' (neC b o e hx) e1 (I.base.free b o e n hx)
  · obtain ⟨o', e1⟩ := I.base.there b o e hx
    exact there b o' (neC b o e hx) e1
  · obtain ⟨m1, e1⟩ := I.base.tbls b ps e
    obtain ⟨m2, e2⟩ := tbls b _ e1
    exact ⟨m1 ++ m2, by rw [e2, Array.append_assoc]⟩
  · obtain ⟨m, hn, hl⟩ := I.loc
    refine ⟨m, ns m hn, fun i x v e1 e2 e3 => ?_⟩
    obtain ⟨u, r, l⟩ := hl i x v e1 e2 e3
    refine ⟨u, r, ?_⟩
    rcases l with l | ⟨k, c, e, z⟩
    · exact .inl l
    · exact .inr ⟨k, c, e, cellK x c e _ z⟩
  · obtain ⟨v, z⟩ := I.cell x c e
    exact ⟨v, cellK x c e v z⟩
  · obtain ⟨m, ⟨o, _, _, ho, _⟩, _⟩ := I.loc
    exact free _ o (fun z => (hch _ z).2.1 rfl) ho I.free
  · obtain ⟨v, o, ho, hd⟩ := I.cell x c e
    exact free c o (fun z => (hch c z).2.2.1 x c e rfl) ho (I.freeC x c e)
  · obtain ⟨e, n, ne, nf, d⟩ := I.pin p hp
    have nch : p.1 ∉ ch := fun z => (hch p.1 z).2.2.2 p hp rfl
    exact ⟨keep p.1 p.2 ne nf nch e n, free p.1 p.2 nch e n, ne, nf, d⟩
theorem Inv.un {t' : Nat} (I : Inv X pins σ H s) (u : Un X.fs [] H H' s.heap h') (hok : HOk X.prog X.w H' h') : Inv X pins σ H' { s with heap := h', toks := t' } := by
  obtain ⟨m, ⟨o, es, ep, ho, r⟩, _⟩ := id I.loc
  obtain ⟨sl, hL⟩ := u.any ho I.free (by simp)
  exact I.step (g' := s.gens) (d' := s.drawn) (ch := []) (fun _ z => nomatch z) (fun b o _ hb _ e n => u.keep b o e n hb (by simp)) (fun b o _ hb _ e n => u.slot b o e n hb (by simp)) (fun b o _ e n => u.free b o e n (by simp)) (fun b o _ e => u.there b o e (by simp)) u.tups u.frzs u.tbls (fun m' hm => by
    obtain ⟨o', es', ep', ho', r'⟩ := hm
    rw [ho] at ho'; cases ho'
    exact ⟨_, es', ep', hL, r'⟩) hok I.bare
theorem Inv.call {g' : Array GenState} {t' : Nat} {d' : Drawn} {ch : List Addr} (I : Inv X pins σ H s) (u : Un (frs X.stack) ch H H' s.heap h') (hok : HOk X.prog X.w H' h') (hg : AllBare g')
    (hch : ∀ b ∈ ch, (b ∈ X.ex ∨ X.s_0.heap.objs.size ≤ b) ∧ b ≠ X.env.locals ∧ (∀ x c, X.env.cells.lookup x = some c → c ≠ b) ∧ ∀ p ∈ X.pn ++ pins, p.1 ≠ b) :
    Inv X pins σ H' { s with heap := h', gens := g', drawn := d', toks := t' } := by
  obtain ⟨m, ⟨o, es, ep, ho, r⟩, _⟩ := id I.loc
  obtain ⟨sl, hL⟩ := u.any ho I.free fun z => (hch _ z).2.1 rfl
  exact I.step (ch := ch) hch (fun b o hL hb hc e n => u.keep b o e n (fun z => (List.mem_cons.mp (I.stkSub b z)).elim hL hb) hc) (fun b o _ _ hc e n => u.any e n hc) (fun b o hc e n => u.free b o e n hc) (fun b o hc e => u.there b o e hc) u.tups u.frzs u.tbls (fun m' hm => by
    obtain ⟨o', es', ep', ho', r'⟩ := hm
    rw [ho] at ho'; cases ho'
    exact ⟨_, es', ep', hL, r'⟩) hok hg
theorem Inv.turned {t' : Nat} {it : Addr} (I : Inv X pins σ H s) (k : ∀ b o, b ≠ it → s.heap.get? b = some o → h'.get? b = some o) (hn : H it = none) (hL : it ≠ X.env.locals)
    (h1 : it ∈ X.ex ∨ X.s_0.heap.objs.size ≤ it) (h2 : ∀ x c, X.env.cells.lookup x = some c → c ≠ it) (h3 : ∀ p ∈ X.pn ++ pins, p.1 ≠ it) : Inv X pins σ H { s with heap := h', toks := t' } := by
  have nit : ∀ b u, H b = some u → b ≠ it := fun b u e z => by rw [z, hn] at e; cases e
  refine I.step (g' := s.gens) (d' := s.drawn) (ch := [it]) (fun b hb => ?_) (fun b o _ _ hc e _ => k b o (fun z => hc (by simp [z])) e) (fun b o _ _ hc e _ => ⟨o.slots, k b o (fun z => hc (by simp [z])) e⟩) (fun _ _ _ _ n => n)
    (fun b o hc e => ⟨o, k b o (fun z => hc (by simp [z])) e⟩) (fun _ _ e => e) (fun _ _ _ e => e) (fun b ps e => ⟨#[], by rw [e]; simp⟩) (fun m hm => ?_) (fun b u e => ?_) I.bare
  · have e : b = it := by simpa using hb
    subst e
    exact ⟨h1, hL, h2, h3⟩
  · obtain ⟨o, es, ep, ho, r⟩ := hm
    exact ⟨o, es, ep, k _ o (Ne.symm hL) ho, r⟩
  · refine (I.hok b u e).stay (fun c v hc q => k c v ?_ q) (fun _ q => q) fun _ _ q => q
    rcases hc with z | z
    · rw [z]; exact nit b u e
    · exact nit c _ z
theorem Inv.tok (I : Inv X pins σ H s) (t : Nat) : Inv X pins σ H { s with toks := t } := I.un (h' := s.heap) (t' := t) Un.refl I.hok
theorem Inv.kept {t' : Nat} (I : Inv X pins σ H s) (k : ∀ b u, s.heap.get? b = some u → h'.get? b = some u) : Inv X pins σ H { s with heap := h', toks := t' } := I.un (Un.kept k) (I.hok.kept k)
theorem Inv.laid {a : Addr} {o : HO} {t' : Nat} (I : Inv X pins σ H s) (k : ∀ b u, s.heap.get? b = some u → h'.get? b = some u) (hp : s.heap.objs.size ≤ a) (new : ObjOk X.prog X.w (upd H a o) h' a o) :
    Inv X pins σ (upd H a o) { s with heap := h', toks := t' } := I.un (Un.laid k hp (I.hok.fresh hp)) (I.hok.laid k hp new)
theorem Inv.write {x e : Addr} {o : HO} {t' : Nat} (I : Inv X pins σ H s) (mu : Mut (H x)) (he : e = x ∨ H e = some (.own x)) (k : ∀ b u, b ≠ e → s.heap.get? b = some u → h'.get? b = some u) (heo : ∃ u, h'.get? e = some u)
    (new : ObjOk X.prog X.w (upd H x o) h' x o) : Inv X pins σ (upd H x o) { s with heap := h', toks := t' } := I.un (Un.write mu he k heo) (I.hok.write mu he k heo new)
theorem Inv.weak {σ' : List (Option V)} (I : Inv X pins σ H s) (hl : σ'.length = σ.length) (w : ∀ (i : Nat) v, σ'[i]? = some (some v) → σ[i]? = some (some v)) : Inv X pins σ' H s :=
  ⟨I.ok, I.os, I.bare, I.base, let ⟨m, hn, hl'⟩ := I.loc; ⟨m, hn, fun i x v e1 e2 e3 => hl' i x v e1 (w i v e2) e3⟩, I.cell, I.free, I.freeC, I.pin, I.hok, hl.trans I.len⟩
theorem Inv.pins_of {pins' : List (Addr × Obj)} (I : Inv X pins σ H s) (h : ∀ p ∈ pins', s.heap.get? p.1 = some p.2 ∧ H p.1 = none ∧ p.1 ≠ X.env.locals ∧ p.1 ∉ X.fs ∧ ∀ v, p.2.data ≠ .cell v) : Inv X pins' σ H s :=
  ⟨I.ok, I.os, I.bare, I.base, I.loc, I.cell, I.free, I.freeC, fun p hp => (List.mem_append.mp hp).elim (fun z => I.pin p (List.mem_append_left _ z)) (h p), I.hok, I.len⟩
theorem nodup_ix {N : List Str} (hN : N.Nodup) {i j : Nat} {x : Str} (a : N[i]? = some x) (b : N[j]? = some x) : i = j := by
  obtain ⟨h1, e1⟩ := List.getElem?_eq_some_iff.mp a
  obtain ⟨h2, e2⟩ := List.getElem?_eq_some_iff.mp b
  exact (List.getElem_inj hN).mp (e1.trans e2.symm)
theorem store_ok2 {M : Model} {A : Around} {E : Value → Shared → Prop} {i : Nat} {x : Str} {v : V} {u : Value} {Q : Unit → Shared → Prop} (I : Inv X pins σ H s) (hN : X.N.Nodup) (hi : X.N[i]? = some x) (hx : Loc X.env.scope x) (r : RelV v u)
    (h : ∀ s', Inv X pins (σ.set i (some v)) H s' → (∃ a, Heap.SameBut a s.heap s'.heap ∧ (a = X.env.locals ∨ X.env.cells.lookup x = some a)) → Q () s') (hf : X.fn x = true ∨ X.env.scope.names.lookup x = some .local := by first | exact .inl rfl | exact .inr rfl | assumption) : wpAny M A (storeName X.env x u) Q E s := by
  obtain ⟨m, hn, hl⟩ := id I.loc
  have hcls : (X.env.scope.kind == .class || (X.env.scope.kind == .module && X.env.locals != X.env.globals)) = false := by rw [I.ok.kind]; rfl
  have hiσ : i < σ.length := by rw [I.len]; exact (List.getElem?_eq_some_iff.mp hi).1
  have cne := I.cne
  have tracked : ∀ {a : Addr} {h' : Heap}, (∃ o, s.heap.get? a = some o ∧ H a = none) → Heap.SameBut a s.heap h' → HOk X.prog X.w H h' := fun {a h'} ha hs b ob e => by
    obtain ⟨_, _, hfree⟩ := ha
    refine (I.hok b ob e).stay (fun c w' hc q => (hs.2 c ?_).trans q) (fun _ q => q) fun _ _ q => q
    rintro rfl
    rcases hc with rfl | hc
    · rw [hfree] at e; cases e
    · rw [hfree] at hc; cases hc
  rcases hx with hk | hk
  · refine wpAny_storeName_local hk hn (fun h' hn' hs => ?_) hcls
    obtain ⟨oL, _, _, hoL, _⟩ := id hn
    refine h _ ⟨I.ok, I.os, I.bare, ⟨fun b o e n hb hx => ?_, fun b o e n hb hx => ?_, I.base.free, fun b o e hx => ?_, I.base.tups, I.base.frzs, I.base.tbls⟩, ⟨_, hn', fun j y v' e1 e2 e3 => ?_⟩, fun y c e => ?_, I.free, I.freeC, fun p hp => ?_, tracked ⟨oL, hoL, I.free⟩ hs, by simpa using I.len⟩ ⟨_, hs, .inl rfl⟩
    · exact (hs.2 b (Nat.ne_of_lt (Nat.lt_of_lt_of_le (Heap.lt_size e) I.ok.above))).trans (I.base.keep b o e n hb hx)
    · obtain ⟨sl, e1⟩ := I.base.slot b o e n hb hx
      exact ⟨sl, (hs.2 b (Nat.ne_of_lt (Nat.lt_of_lt_of_le (Heap.lt_size e) I.ok.above))).trans e1⟩
    · obtain ⟨o', e1⟩ := I.base.there b o e hx
      exact ⟨o', (hs.2 b (Nat.ne_of_lt (Nat.lt_of_lt_of_le (Heap.lt_size e) I.ok.above))).trans e1⟩
    · by_cases hj : j = i
      · subst hj
        rw [hi] at e1; cases e1
        rw [List.getElem?_set_self hiσ] at e2
        cases e2
        exact ⟨u, r, .inl ⟨hk, by simp⟩⟩
      · rw [List.getElem?_set_ne (Ne.symm hj)] at e2
        obtain ⟨u', r', q⟩ := hl j y v' e1 e2 e3
        refine ⟨u', r', ?_⟩
        rcases q with ⟨k, e⟩ | ⟨k, c, e, z⟩
        · refine .inl ⟨k, ?_⟩
          have : y ≠ x := fun e => hj (nodup_ix hN e1 (e ▸ hi))
          simp [this, e]
        · exact .inr ⟨k, c, e, z.sameBut hs (cne y c e)⟩
    · obtain ⟨w', z⟩ := I.cell y c e
      exact ⟨w', z.sameBut hs (cne y c e)⟩
    · obtain ⟨e, n, ne, nf, d⟩ := I.pin p hp
      exact ⟨(hs.2 p.1 ne).trans e, n, ne, nf, d⟩
  · have hfn : X.fn x = true := by
      rcases hf with z | z
      · exact z
      · rw [z] at hk; cases hk
    obtain ⟨c, hc⟩ := I.ok.has x (.inl hk)
    obtain ⟨w', z⟩ := I.cell x c hc
    refine wpAny_storeName_cell I.ok.kind hk hc z (fun h' hc' hs => ?_)
    obtain ⟨oc, hoc, hocd⟩ := id z
    refine h { s with heap := h' } ⟨I.ok, I.os, I.bare, ⟨fun b o e n hb hx => ?_, fun b o e n hb hx => ?_, I.base.free, fun b o e hx => ?_, I.base.tups, I.base.frzs, I.base.tbls⟩, ⟨m, hn.sameBut hs (Ne.symm (cne x c hc)), fun j y v' e1 e2 e3 => ?_⟩, fun y c' e => ?_, I.free, I.freeC, fun p hp => ?_, tracked ⟨oc, hoc, I.freeC x c hc⟩ hs, by simpa using I.len⟩ ⟨c, hs, .inr hc⟩
    · exact (hs.2 b (Nat.ne_of_lt (Nat.lt_of_lt_of_le (Heap.lt_size e) (I.ok.cab x c hfn hc)))).trans (I.base.keep b o e n hb hx)
    · obtain ⟨sl, e1⟩ := I.base.slot b o e n hb hx
      exact ⟨sl, (hs.2 b (Nat.ne_of_lt (Nat.lt_of_lt_of_le (Heap.lt_size e) (I.ok.cab x c hfn hc)))).trans e1⟩
    · obtain ⟨o', e1⟩ := I.base.there b o e hx
      exact ⟨o', (hs.2 b (Nat.ne_of_lt (Nat.lt_of_lt_of_le (Heap.lt_size e) (I.ok.cab x c hfn hc)))).trans e1⟩
    · by_cases hj : j = i
      · subst hj
        rw [hi] at e1; cases e1
        rw [List.getElem?_set_self hiσ] at e2
        cases e2
        exact ⟨u, r, .inr ⟨.inl hk, c, hc, hc'⟩⟩
      · rw [List.getElem?_set_ne (Ne.symm hj)] at e2
        obtain ⟨u', r', q⟩ := hl j y v' e1 e2 e3
        refine ⟨u', r', ?_⟩
        rcases q with q | ⟨k, c', e, z'⟩
        · exact .inl q
        · refine .inr ⟨k, c', e, z'.sameBut hs ?_⟩
          rintro rfl
          exact hj (nodup_ix hN e1 (I.ok.inj _ _ _ e hc ▸ hi))
    · by_cases hcc : c' = c
      · subst hcc; exact ⟨_, hc'⟩
      · obtain ⟨w2, z2⟩ := I.cell y c' e
        exact ⟨w2, z2.sameBut hs hcc⟩
    · obtain ⟨e, n, ne, nf, d⟩ := I.pin p hp
      refine ⟨(hs.2 p.1 ?_).trans e, n, ne, nf, d⟩
      intro q
      rw [q, hoc] at e
      have q' : oc = p.2 := Option.some.inj e
      exact d w' (by rw [← q']; exact hocd)
theorem store_ok {M : Model} {A : Around} {E : Value → Shared → Prop} {i : Nat} {x : Str} {v : V} {u : Value} {Q : Unit → Shared → Prop} (I : Inv X pins σ H s) (hN : X.N.Nodup) (hi : X.N[i]? = some x) (hx : Loc X.env.scope x) (r : RelV v u)
    (h : ∀ s', Inv X pins (σ.set i (some v)) H s' → Q () s') (hf : X.fn x = true ∨ X.env.scope.names.lookup x = some .local := by first | exact .inl rfl | exact .inr rfl | assumption) : wpAny M A (storeName X.env x u) Q E s :=
  store_ok2 I hN hi hx r (fun s' I' _ => h s' I') hf
theorem Inv.call' {s' : Shared} {ch : List Addr} (I : Inv X pins σ H s) (ho : s'.os = s.os) (u : Un (frs X.stack) ch H H' s.heap s'.heap) (hok : HOk X.prog X.w H' s'.heap) (hg : AllBare s'.gens)
    (hch : ∀ b ∈ ch, (b ∈ X.ex ∨ X.s_0.heap.objs.size ≤ b) ∧ b ≠ X.env.locals ∧ (∀ x c, X.env.cells.lookup x = some c → c ≠ b) ∧ ∀ p ∈ X.pn ++ pins, p.1 ≠ b) : Inv X pins σ H' s' := by
  obtain ⟨h', g', d', t', o'⟩ := s'
  have e : o' = s.os := ho
  subst e
  exact I.call (g' := g') (t' := t') (d' := d') u hok hg hch
end
abbrev XK := Value → Option Addr → Hp → Prop
abbrev St := List (Option V)
abbrev VK := V → Hp → Prop
abbrev TE := St → Hp → VK → Prop
abbrev TT := St → Hp → (Bool → Hp → Prop) → Prop
abbrev TA := St → Hp → (List V → Hp → Prop) → Prop
structure Ends where
  nx : St → Hp → Prop
  rt : VK
  bk : St → Hp → Prop := fun _ _ => False
  ct : St → Hp → Prop := fun _ _ => False
abbrev TS := Ends → St → Hp → Prop
def EP (X : Cx) (pins : List (Addr × Obj)) (σ : St) (Q : VK) (u : Value) (s' : Shared) : Prop := ∃ v H', Inv X pins σ H' s' ∧ RelV v u ∧ Q v H'
def TP (X : Cx) (pins : List (Addr × Obj)) (σ : St) (Q : Bool → Hp → Prop) (b : Bool) (s' : Shared) : Prop := ∃ H', Inv X pins σ H' s' ∧ Q b H'
def AP (X : Cx) (pins : List (Addr × Obj)) (σ : St) (Q : List V → Hp → Prop) (us : List Value) (s' : Shared) : Prop := ∃ vs H', Inv X pins σ H' s' ∧ Vals vs us ∧ Q vs H'
def SP (X : Cx) (pins : List (Addr × Obj)) (D : Ends) (f : Flow) (s' : Shared) : Prop :=
  match f with
  | .next => ∃ σ' H', Inv X pins σ' H' s' ∧ D.nx σ' H'
  | .brk => ∃ σ' H', Inv X pins σ' H' s' ∧ D.bk σ' H'
  | .cont => ∃ σ' H', Inv X pins σ' H' s' ∧ D.ct σ' H'
  | .ret u => ∃ v σ' H', Inv X pins σ' H' s' ∧ RelV v u ∧ D.rt v H'
def PE (X : Cx) (e : Expr) (t : TE) : Prop :=
  ∀ (pins : List (Addr × Obj)) (s : Shared) (σ : St) (H : Hp) (Q : VK), Inv X pins σ H s → t σ H Q → wpAny (model X.prog X.w) X.A (eval e X.env) (EP X pins σ Q) X.xe s
def PT (X : Cx) (e : Expr) (t : TT) : Prop :=
  ∀ (pins : List (Addr × Obj)) (s : Shared) (σ : St) (H : Hp) (Q : Bool → Hp → Prop), Inv X pins σ H s → t σ H Q → wpAny (model X.prog X.w) X.A (isTrue e X.env (eval e X.env)) (TP X pins σ Q) X.xe s
def PW (X : Cx) (e : Expr) (t : TT) : Prop :=
  ∀ (whole : Sem Value) (pins : List (Addr × Obj)) (s : Shared) (σ : St) (H : Hp) (Q : Bool → Hp → Prop), Inv X pins σ H s → t σ H Q → wpAny (model X.prog X.w) X.A (isTrue e X.env whole) (TP X pins σ Q) X.xe s
theorem PW.pt {X : Cx} {e : Expr} {t : TT} (h : PW X e t) : PT X e t := h _
def PA (X : Cx) (es : List Expr) (t : TA) : Prop :=
  ∀ (pos : Pos) (pins : List (Addr × Obj)) (s : Shared) (σ : St) (H : Hp) (Q : List V → Hp → Prop), Inv X pins σ H s → t σ H Q → wpAny (model X.prog X.w) X.A (spliced (backTo pos (starEach es X.env))) (AP X pins σ Q) X.xe s
def PS (X : Cx) (st : Stmt) (t : TS) : Prop :=
  ∀ (pins : List (Addr × Obj)) (s : Shared) (σ : St) (H : Hp) (D : Ends), Inv X pins σ H s → t D σ H → wpAny (model X.prog X.w) X.A (exec st X.env) (SP X pins D) X.xe s
def PSs (X : Cx) (st : List Stmt) (t : TS) : Prop :=
  ∀ (pins : List (Addr × Obj)) (s : Shared) (σ : St) (H : Hp) (D : Ends), Inv X pins σ H s → t D σ H → wpAny (model X.prog X.w) X.A (execs st X.env) (SP X pins D) X.xe s
theorem thn {α : Type} {t : Sem α} {Q Q' : α → Shared → Prop} {M : Model} {A : Around} {E : Value → Shared → Prop} {s : Shared} (h : wpAny M A t Q E s) (hQ : ∀ a s, Q a s → Q' a s) : wpAny M A t Q' E s := wpAny_mono h hQ fun _ _ x => x
end L2
namespace L2
open PySem PySem.Spec PyProof.Rows
section
variable {X : Cx}
def tVar (i : Nat) : TE := fun σ H Q => ∃ v, σ[i]? = some (some v) ∧ Q v H
def tC (v : V) : TE := fun _ H Q => Q v H
theorem pe_var {i : Nat} {x : Str} {pos : Pos} (hN : X.N[i]? = some x) (hv : Vis X.env.scope x) (hd : (x == ("__debug__" : Str)) = false := by decide) (hcd : (x == ("__classdict__" : Str)) = false := by decide) : PE X (.Name x pos) (tVar i) := by
  intro pins s σ H Q I h
  obtain ⟨v, e, h⟩ := h
  obtain ⟨m, hn, hl⟩ := I.loc
  obtain ⟨u, r, l⟩ := hl i x v hN e hv
  have fin : EP X pins σ Q u s := ⟨v, H, I, r, h⟩
  rcases l with ⟨hk, hm⟩ | ⟨hk, c, hc, hcell⟩
  · exact wpAny_Name (wpAny_loadName_local I.ok.kind hk hn hm fin) hd
  · rcases hk with hk | hk
    · exact wpAny_Name (wpAny_loadName_cell I.ok.kind hk hc hcell fin) hd
    · exact wpAny_Name (wpAny_loadName_free I.ok.kind hk hc hcell fin hcd) hd
theorem pe_int {i j pos} : PE X (.Constant (.int i) j pos) (tC (.int i)) := fun _ _ _ H _ I h => wpAny_Constant_int ⟨.int i, H, I.tok _, ⟨_, rfl⟩, h⟩
theorem pe_bl {b j pos} : PE X (.Constant (.bool b) j pos) (tC (.bl b)) := fun _ _ _ H _ I h => Constant_bool ⟨.bl b, H, I, rfl, h⟩
def Gl (X : Cx) (x : Str) : Prop := X.env.kindOf x = some .globalImplicit
theorem ld_glob {E : Value → Shared → Prop} {pins : List (Addr × Obj)} {s : Shared} {σ : St} {H : Hp} {x : Str} {u : Value} {pos : Pos} {Q : Value → Shared → Prop} (I : Inv X pins σ H s) (hg : Gl X x) (hm : X.mg x = some u) (h : Q u s)
    (hd : (x == ("__debug__" : Str)) = false := by decide) : wpAny (model X.prog X.w) X.A (eval (.Name x pos) X.env) Q E s :=
  Calls.Name_function_global I.ok.kind hg (Calls.loadGlobal_global (by rw [I.ok.glob]; exact I.mod.glob.keeps I.bk) hm h) hd
theorem ld_blt {E : Value → Shared → Prop} {pins : List (Addr × Obj)} {s : Shared} {σ : St} {H : Hp} {x : Str} {u : Value} {pos : Pos} {Q : Value → Shared → Prop} (I : Inv X pins σ H s) (hg : Gl X x) (hm : X.mg x = none) (hv : bootBuiltins x = some u) (h : Q u s)
    (hn : x ≠ "__name__" := by decide) (hd : (x == ("__debug__" : Str)) = false := by decide) : wpAny (model X.prog X.w) X.A (eval (.Name x pos) X.env) Q E s := by
  obtain ⟨mb, h1, h2⟩ := I.mod.blt
  exact Calls.Name_function_global I.ok.kind hg (Calls.loadGlobal_builtin (by rw [I.ok.glob]; exact I.mod.glob.keeps I.bk) hm (by rw [I.ok.blt]; exact h1.keeps I.bk) ((h2 x hn).trans hv) h) hd
theorem pe_glob {x : Str} {v : V} {u : Value} {pos : Pos} (hg : Gl X x) (hm : X.mg x = some u) (r : RelV v u) (hd : (x == ("__debug__" : Str)) = false := by decide) : PE X (.Name x pos) (tC v) :=
  fun _ _ _ H _ I h => ld_glob I hg hm ⟨v, H, I, r, h⟩ hd
variable {a b : Expr} {ta tb : TE} {pos : Pos}
def tB (t : TE) : TT := fun σ H Q => t σ H fun x H1 => ∃ c, x = .bl c ∧ Q c H1
theorem pt_val {e : Expr} {t : TE} (h : PE X e t) (he : ∀ whole, isTrue e X.env whole = (do let v ← whole; standAt e.pos; holding [v] (truthy v)) := by intro _; rfl) : PT X e (tB t) := by
  intro pins s σ H Q I hw
  refine isTrue_plain (thn (h pins s σ H _ I hw) fun v s1 ⟨x, H1, I1, r1, q1⟩ => ?_) (he _)
  obtain ⟨d, rfl, q⟩ := q1
  cases r1
  exact wpAny_truthy_bool ⟨H1, I1, q⟩
variable {tA tB' : TT} {rest : List Expr}
def tNot (t : TT) : TT := fun σ H Q => t σ H fun c H1 => Q (!c) H1
theorem pt_not (ha : PT X a tA) : PT X (.UnaryOp .Not a pos) (tNot tA) := by
  intro pins s σ H Q I h
  exact isTrue_not (ha pins s σ H (fun c H1 => Q (!c) H1) I h)
def tAndV (ta tb : TE) : TE := fun σ H Q => ta σ H fun x H1 => ∃ c, x = .bl c ∧ if c = true then tb σ H1 Q else Q (.bl false) H1
theorem pe_one {op} {t : TE} (h : PE X a t) : PE X (.BoolOp op [a] pos) t := fun pins s σ H Q I hw => BoolOp_one (h pins s σ H Q I hw)
theorem pe_and (ha : PE X a ta) (hb : PE X (.BoolOp .And (b :: rest) pos) tb) : PE X (.BoolOp .And (a :: b :: rest) pos) (tAndV ta tb) := by
  intro pins s σ H Q I h
  refine BoolOp_and (thn (ha pins s σ H _ I h) fun v s1 ⟨x, H1, I1, r1, q1⟩ => ?_)
  obtain ⟨c, rfl, q1⟩ := q1
  cases r1
  refine wpAny_truthy_bool ?_
  cases c with
  | true => exact hb pins s1 σ H1 Q I1 q1
  | false => exact ⟨.bl false, H1, I1, rfl, q1⟩
def tIf (t : TT) (ta tb : TE) : TE := fun σ H Q => t σ H fun c H1 => if c = true then ta σ H1 Q else tb σ H1 Q
theorem pe_ifExp {c : Expr} (hc : PT X c tA) (ha : PE X a ta) (hb : PE X b tb) : PE X (.IfExp c a b pos) (tIf tA ta tb) := by
  intro pins s σ H Q I h
  refine wpAny_IfExp (thn (hc pins s σ H _ I h) fun d s1 ⟨H1, I1, q1⟩ => ?_)
  cases d with
  | true => exact ha pins s1 σ H1 Q I1 q1
  | false => exact hb pins s1 σ H1 Q I1 q1
end
end L2
namespace L2
open PySem PySem.Spec PyProof.Rows
def SqL (K : PySem.W.Frag) (H : Hp) (a : Addr) (xs : List V) : Prop :=
  Rd H a (.lst xs) ∨
    ∃ (o : Obj) (its : Array Value) (n : Nat), K.lookup a = some o ∧ o.cls = .type "list" ∧ o.dict = none ∧ o.data = .seq its n ∧ its.size ≤ sizeLine ∧ Vals xs its.toList
def SqT (K : PySem.W.Frag) (H : Hp) (a : Addr) (xs : List V) : Prop :=
  Rd H a (.tup xs) ∨
    ∃ (o : Obj) (its : Array Value) (n : Nat), K.lookup a = some o ∧ o.cls = .type "tuple" ∧ o.data = .seq its n ∧ its.size ≤ sizeLine ∧ Vals xs its.toList
def absV : Value → Option V
  | .none => some .non
  | .bool b => some (.bl b)
  | .int i _ => some (.int i)
  | .str x _ => some (.str x)
  | .bytes b _ => some (.byt b)
  | .float b _ => some (.flt b)
  | .ref a => some (.ref a)
  | .type n => some (.ty n)
  | _ => none
theorem RelV.abs {x : V} {u : Value} (r : RelV x u) : absV u = some x := by
  cases x with
  | non => cases r; rfl
  | bl _ => cases r; rfl
  | int _ => obtain ⟨t, rfl⟩ := r; rfl
  | str _ => obtain ⟨t, rfl⟩ := r; rfl
  | byt _ => obtain ⟨t, rfl⟩ := r; rfl
  | flt _ => obtain ⟨t, rfl⟩ := r; rfl
  | ref _ => cases r; rfl
  | ty _ => cases r; rfl
theorem RelV.inj {x y : V} {u : Value} (r : RelV x u) (q : RelV y u) : x = y := Option.some.inj (r.abs.symm.trans q.abs)
theorem Vals.inj : ∀ {xs ys : List V} {us : List Value}, Vals xs us → Vals ys us → xs = ys
  | _, _, _, .nil, .nil => rfl
  | _, _, _, .cons r t, .cons r' t' => by rw [r.inj r', Vals.inj t t']
section
variable {X : Cx} {pins : List (Addr × Obj)} {σ : St} {H : Hp} {s : Shared} {a : Addr} {xs ys : List V}
theorem SqL.of {K : PySem.W.Frag} (h : H a = some (.lst xs)) : SqL K H a xs := .inl (.inl h)
theorem SqT.of {K : PySem.W.Frag} (h : H a = some (.tup xs)) : SqT K H a xs := .inl (.inl h)
theorem Inv.list (I : Inv X pins σ H s) (h : SqL X.K H a xs) : ∃ its : List Value, Vals xs its ∧ PlainL s.heap a its.toArray ∧ xs.length ≤ sizeLine := by
  rcases h with h | ⟨o, its, n, hk, hc, hd, hs, hz, r⟩
  · obtain ⟨z, its, n, r, e⟩ := h.ok I.hok
    exact ⟨its, r, ⟨_, n, e, rfl, rfl, rfl⟩, z⟩
  · refine ⟨its.toList, r, ⟨o, n, I.kIn a o hk, hc, hd, by simpa using hs⟩, ?_⟩
    have e := r.length
    simp only [Array.length_toList] at e
    omega
theorem Inv.tuple (I : Inv X pins σ H s) (h : SqT X.K H a xs) : ∃ its : List Value, Vals xs its ∧ IsTup s.heap a its.toArray ∧ xs.length ≤ sizeLine := by
  rcases h with h | ⟨o, its, n, hk, hc, hs, hz, r⟩
  · obtain ⟨z, its, r, p⟩ := h.ok I.hok
    exact ⟨its, r, p, z⟩
  · refine ⟨its.toList, r, ⟨o, I.kIn a o hk, hc, n, by simpa using hs⟩, ?_⟩
    have e := r.length
    simp only [Array.length_toList] at e
    omega
theorem Inv.list_inj (I : Inv X pins σ H s) (h : SqL X.K H a xs) (h' : SqL X.K H a ys) : xs = ys := by
  obtain ⟨its, r, ⟨o, n, e, _, _, d⟩, _⟩ := I.list h
  obtain ⟨its', r', ⟨o', n', e', _, _, d'⟩, _⟩ := I.list h'
  rw [e] at e'; cases e'
  rw [d] at d'
  injection d' with d1 _
  have : its = its' := by simpa using congrArg Array.toList d1
  subst this
  exact r.inj r'
theorem Inv.tuple_inj (I : Inv X pins σ H s) (h : SqT X.K H a xs) (h' : SqT X.K H a ys) : xs = ys := by
  obtain ⟨its, r, ⟨o, e, _, n, d⟩, _⟩ := I.tuple h
  obtain ⟨its', r', ⟨o', e', _, n', d'⟩, _⟩ := I.tuple h'
  rw [e] at e'; cases e'
  rw [d] at d'
  injection d' with d1 _
  have : its = its' := by simpa using congrArg Array.toList d1
  subst this
  exact r.inj r'
end
abbrev Cx.wish (X : Cx) (E : Value → Shared → Prop) : Cx := { X with xe := E }
abbrev Cx.nox (X : Cx) : Cx := X.wish fun _ _ => False
theorem Cx.Ok.wish {X : Cx} (ok : X.Ok) (E : Value → Shared → Prop) : (X.wish E).Ok :=
  ⟨ok.mod, ok.kind, ok.glob, ok.blt, ok.above, ok.inj, ok.has, ok.cab, ok.hd, ok.frames, ok.stk, ok.exf, ok.bs, ok.bsz, ok.noex, ok.exfs, ok.funs, ok.frf⟩
theorem Cx.Ok.unwish {X : Cx} {E : Value → Shared → Prop} (ok : (X.wish E).Ok) : X.Ok :=
  ⟨ok.mod, ok.kind, ok.glob, ok.blt, ok.above, ok.inj, ok.has, ok.cab, ok.hd, ok.frames, ok.stk, ok.exf, ok.bs, ok.bsz, ok.noex, ok.exfs, ok.funs, ok.frf⟩
section
variable {X : Cx} {pins : List (Addr × Obj)} {σ : St} {H : Hp} {s : Shared} {E : Value → Shared → Prop}
theorem Inv.wish (I : Inv X pins σ H s) (E : Value → Shared → Prop) : Inv (X.wish E) pins σ H s := ⟨I.ok.wish E, I.os, I.bare, I.base, I.loc, I.cell, I.free, I.freeC, I.pin, I.hok, I.len⟩
theorem Inv.unwish (I : Inv (X.wish E) pins σ H s) : Inv X pins σ H s := ⟨I.ok.unwish, I.os, I.bare, I.base, I.loc, I.cell, I.free, I.freeC, I.pin, I.hok, I.len⟩
theorem SP.unwish {D : Ends} {f : Flow} {s' : Shared} (h : SP (X.wish E) pins D f s') : SP X pins D f s' := by
  cases f with
  | next => obtain ⟨σ', H', I, q⟩ := h; exact ⟨σ', H', I.unwish, q⟩
  | brk => obtain ⟨σ', H', I, q⟩ := h; exact ⟨σ', H', I.unwish, q⟩
  | cont => obtain ⟨σ', H', I, q⟩ := h; exact ⟨σ', H', I.unwish, q⟩
  | ret u => obtain ⟨v, σ', H', I, r, q⟩ := h; exact ⟨v, σ', H', I.unwish, r, q⟩
theorem PE.nox {e : Expr} {t : TE} (h : PE X.nox e t) : PE X e t := fun pins s σ H Q I hw =>
  wpAny_mono (h pins s σ H Q (I.wish _) hw) (fun _ _ ⟨v, H', I', r, q⟩ => ⟨v, H', I'.unwish, r, q⟩) fun _ _ z => False.elim z
theorem PT.nox {e : Expr} {t : TT} (h : PT X.nox e t) : PT X e t := fun pins s σ H Q I hw =>
  wpAny_mono (h pins s σ H Q (I.wish _) hw) (fun _ _ ⟨H', I', q⟩ => ⟨H', I'.unwish, q⟩) fun _ _ z => False.elim z
theorem PSs.nox {st : List Stmt} {t : TS} (h : PSs X.nox st t) : PSs X st t := fun pins s σ H D I hw =>
  wpAny_mono (h pins s σ H D (I.wish _) hw) (fun _ _ q => q.unwish) fun _ _ z => False.elim z
end
section
variable {X : Cx} {st : Stmt} {rest : List Stmt} {t u : TS} {e : Expr} {te : TE} {pos : Pos}
def tNext : TS := fun D σ H => D.nx σ H
def tSeq (t u : TS) : TS := fun D σ H => t { D with nx := u D } σ H
theorem pss_nil : PSs X [] tNext := fun _ _ σ H _ I h => wpAny_execs_nil ⟨σ, H, I, h⟩
theorem pss_cons (h1 : PS X st t) (h2 : PSs X rest u) : PSs X (st :: rest) (tSeq t u) := by
  intro pins s σ H D I h
  refine wpAny_execs_cons (thn (h1 pins s σ H { D with nx := u D } I h) fun f s1 q => ?_)
  cases f with
  | next =>
    obtain ⟨σ', H', I', q⟩ := q
    exact h2 pins s1 σ' H' D I' q
  | ret v => exact q
  | brk => exact q
  | cont => exact q
theorem pss_one (h1 : PS X st t) : PSs X [st] t := by
  intro pins s σ H D I h
  refine wpAny_execs_cons (thn (h1 pins s σ H D I h) fun f s1 q => ?_)
  cases f with
  | next => exact wpAny_execs_nil q
  | ret v => exact q
  | brk => exact q
  | cont => exact q
theorem Inv.quiet {pins : List (Addr × Obj)} {σ : St} {H : Hp} {s : Shared} (I : Inv X pins σ H s) : interactive X.env = false := by simp [interactive, I.ok.kind]
def tDrop (te : TE) : TS := fun D σ H => te σ H fun _ H1 => D.nx σ H1
theorem ps_expr (he : PE X e te) (hs : swapsWith e none pos.line X.env = pure false := by rfl) : PS X (.Expr e pos) (tDrop te) := by
  intro pins s σ H D I h
  exact wpAny_Expr_any (thn (he pins s σ H _ I h) fun v s1 ⟨x, H1, I1, r1, q1⟩ => ⟨σ, H1, I1, q1⟩) I.quiet hs
def tRet (te : TE) : TS := fun D σ H => te σ H D.rt
theorem ps_ret (he : PE X e te) : PS X (.Return (some e) pos) (tRet te) := by
  intro pins s σ H D I h
  exact wpAny_Return_some (thn (he pins s σ H _ I h) fun v s1 ⟨x, H1, I1, r1, q1⟩ => ⟨x, σ, H1, I1, r1, q1⟩)
def tIfS (c : TT) (t u : TS) : TS := fun D σ H => c σ H fun b H1 => if b = true then t D σ H1 else u D σ H1
theorem ps_if {c : Expr} {a b : List Stmt} {tc : TT} (hc : PT X c tc) (ha : PSs X a t) (hb : PSs X b u) : PS X (.If c a b pos) (tIfS tc t u) := by
  intro pins s σ H D I h
  refine wpAny_If (thn (hc pins s σ H _ I h) fun d s1 ⟨H1, I1, q1⟩ => ?_)
  cases d with
  | true => exact ha pins s1 σ H1 D I1 q1
  | false => exact hb pins s1 σ H1 D I1 q1
end
abbrev TG := V → St → Hp → (St → Hp → Prop) → Prop
def PG (X : Cx) (target : Expr) (t : TG) : Prop :=
  ∀ (pins : List (Addr × Obj)) (s : Shared) (σ : St) (H : Hp) (v : V) (u : Value) (Q : St → Hp → Prop), Inv X pins σ H s → RelV v u → t v σ H Q →
    wpAny (model X.prog X.w) X.A (assign target X.env u) (fun _ s' => ∃ σ' H', Inv X pins σ' H' s' ∧ Q σ' H') X.xe s
section
variable {X : Cx} {pos : Pos}
def gName (i : Nat) : TG := fun v σ H Q => Q (σ.set i (some v)) H
theorem pg_name {i : Nat} {x : Str} (hN : X.N.Nodup) (hi : X.N[i]? = some x) (hx : Loc X.env.scope x) (hf : X.fn x = true ∨ X.env.scope.names.lookup x = some .local := by first | exact .inl rfl | exact .inr rfl | assumption) : PG X (.Name x pos) (gName i) := by
  intro pins s σ H v u Q I r h
  exact wpAny_assign_Name (store_ok I hN hi hx r (fun s' I' => ⟨_, H, I', h⟩) hf)
def tAsg (te : TE) (g : TG) : TS := fun D σ H => te σ H fun x H1 => g x σ H1 D.nx
theorem ps_set {i : Nat} {x : Str} {e : Expr} {te : TE} {pos' : Pos} (hN : X.N.Nodup) (hi : X.N[i]? = some x) (hx : Loc X.env.scope x) (he : PE X e te) (hs : swapsWith e (some (.Name x pos')) pos.line X.env = pure false := by rfl) (hf : X.fn x = true ∨ X.env.scope.names.lookup x = some .local := by first | exact .inl rfl | exact .inr rfl | assumption) :
    PS X (.Assign [.Name x pos'] e pos) (tAsg te (gName i)) := by
  intro pins s σ H D I h
  refine wpAny_Assign_Name (thn (he pins s σ H _ I h) fun v s1 ⟨y, H1, I1, r1, q1⟩ => ?_) hs
  exact store_ok I1 hN hi hx r1 (fun s2 I2 => ⟨_, H1, I2, q1⟩) hf
end
section
variable {X : Cx} {pos : Pos}
def tWhile (c : TT) (tb : TS) : TS := fun D σ H => ∃ W : Nat → St → Hp → Prop, (∃ m, W m σ H) ∧ ∀ m σ H, W m σ H →
  c σ H fun b H1 => if b = true then ∃ N : St → Hp → Prop, (∀ σ' H', N σ' H' → ∃ m', m' < m ∧ W m' σ' H') ∧ tb { D with nx := N, ct := N, bk := D.nx } σ H1 else D.nx σ H1
theorem ps_while {c : Expr} {body : List Stmt} {tc : TT} {tb : TS} (hp : PassesOwn (model X.prog X.w) X.A X.env X.xe) (hc : PT X c tc) (hb : PSs X body tb) : PS X (.While c body [] pos) (tWhile tc tb) := by
  intro pins s σ H D I h
  obtain ⟨W, ⟨m0, w0⟩, turn⟩ := h
  refine wpAny_While (codeAny_whileLoop (fun n s' => ∃ σ' H', Inv X pins σ' H' s' ∧ W n σ' H') ?_ m0 ⟨σ, H, I, w0⟩)
  rintro n s1 ⟨σ1, H1, I1, w1⟩
  refine wpAny_passesOwn hp (thn (hc pins s1 σ1 H1 _ I1 (turn n σ1 H1 w1)) fun b s2 ⟨H2, I2, q2⟩ => ?_)
  cases b with
  | true =>
    obtain ⟨N, hN, q2⟩ := q2
    rw [if_pos rfl]
    refine wpAny_passesOwn hp (thn (hb pins s2 σ1 H2 _ I2 q2) fun f s3 q3 => ?_)
    cases f with
    | next =>
      obtain ⟨σ3, H3, I3, n3⟩ := q3
      obtain ⟨m', hm, w3⟩ := hN σ3 H3 n3
      exact ⟨m', hm, σ3, H3, I3, w3⟩
    | cont =>
      obtain ⟨σ3, H3, I3, n3⟩ := q3
      obtain ⟨m', hm, w3⟩ := hN σ3 H3 n3
      exact ⟨m', hm, σ3, H3, I3, w3⟩
    | brk => exact q3
    | ret v => exact q3
  | false =>
    rw [if_neg Bool.false_ne_true]
    exact wpAny_execs_nil ⟨σ1, H2, I2, q2⟩
end
structure It where
  go : Nat → Hp → Prop
  yld : Nat → Hp → V → Hp → Prop
  stop : Nat → Hp → Prop
def FpOk (X : Cx) (pins : List (Addr × Obj)) (H : Hp) (b : Addr) : Prop :=
  H b = none ∧ b ≠ X.env.locals ∧ b ∉ X.fs ∧ (b ∈ X.ex ∨ X.s_0.heap.objs.size ≤ b) ∧ (∀ x c, X.env.cells.lookup x = some c → c ≠ b) ∧ ∀ p ∈ X.pn ++ pins, p.1 ≠ b
theorem Inv.fpOk {X : Cx} {pins : List (Addr × Obj)} {σ : St} {H H' : Hp} {s : Shared} {b : Addr} (I : Inv X pins σ H s) (hb : s.heap.objs.size ≤ b) (hn : H' b = none) : FpOk X pins H' b := by
  refine ⟨hn, Nat.ne_of_gt (Nat.lt_of_lt_of_le I.lt hb), I.nofs hb, .inr (Nat.le_trans I.sz hb), fun x c e z => ?_, fun p hp z => ?_⟩
  · obtain ⟨v, q⟩ := I.cell x c e
    exact absurd (Nat.lt_of_lt_of_le q.lt (by rw [z]; exact hb)) (Nat.lt_irrefl _)
  · exact absurd (Nat.lt_of_lt_of_le (Heap.lt_size (I.pin p hp).1) (by rw [z]; exact hb)) (Nat.lt_irrefl _)
structure Turn (P : Program) (w : World) (K : PySem.W.Frag) (tg : Expr) (J : It) (fp : List Addr) (it : Addr) (tn : Nat → Heap → Prop) : Prop where
  mem : it ∈ fp
  obj : ∀ i h, tn i h → ∀ b ∈ fp, ∃ o, h.get? b = some o ∧ ∀ v, o.data ≠ .cell v
  keep : ∀ i h h', tn i h → (∀ b ∈ fp, ∀ o, h.get? b = some o → h'.get? b = some o) → tn i h'
  item : ∀ (X : Cx), X.prog = P → X.w = w → X.K = K → X.calm = true → ∀ (i : Nat) (pins : List (Addr × Obj)) (s : Shared) (σ : St) (H : Hp) (E : Value → Shared → Prop), Inv X pins σ H s → (∀ b ∈ fp, FpOk X pins H b) → tn i s.heap → J.go i H →
    wpAny (model P w) X.A (pyNext (.ref it)) (fun r s1 => ∃ u, r = some u ∧
      wpAny (model P w) X.A (letOwnedTupleGo tg (.ref it) u) (fun _ s2 => ∃ x H', Inv X pins σ H' s2 ∧ RelV x u ∧ J.yld i H x H' ∧ tn (i + 1) s2.heap ∧ ∀ b ∈ fp, H' b = none) E s1) E s
  done : ∀ (X : Cx), X.prog = P → X.w = w → X.K = K → X.calm = true → ∀ (i : Nat) (pins : List (Addr × Obj)) (s : Shared) (σ : St) (H : Hp) (E : Value → Shared → Prop), Inv X pins σ H s → (∀ b ∈ fp, FpOk X pins H b) → tn i s.heap → J.stop i H →
    wpAny (model P w) X.A (pyNext (.ref it)) (fun r s1 => r = none ∧ Inv X pins σ H s1) E s
  self : ∀ (A : Around) (i : Nat) (s : Shared) (Q : Value → Shared → Prop) (E : Value → Shared → Prop), tn i s.heap → Q (.ref it) s → wpAny (model P w) A (pyIter (.ref it)) Q E s
abbrev TI := St → Hp → (It → Hp → Prop) → Prop
def PIE (X : Cx) (pins : List (Addr × Obj)) (σ : St) (tg : Expr) (R : It → Hp → Prop) (itv : Value) (s2 : Shared) : Prop :=
  ∃ (it : Addr) (fp : List Addr) (tn : Nat → Heap → Prop) (J : It) (H' : Hp), itv = .ref it ∧ Inv X pins σ H' s2 ∧ Turn X.prog X.w X.K tg J fp it tn ∧ tn 0 s2.heap ∧ (∀ b ∈ fp, FpOk X pins H' b) ∧ R J H'
def PI (X : Cx) (tg iter : Expr) (wi : TI) : Prop :=
  ∀ (pins : List (Addr × Obj)) (s : Shared) (σ : St) (H : Hp) (R : It → Hp → Prop), Inv X pins σ H s → wi σ H R →
    wpAny (model X.prog X.w) X.A (eval iter X.env) (fun v s1 => wpAny (model X.prog X.w) X.A (pyIter v) (PIE X pins σ tg R) X.xe s1) X.xe s
theorem go_of {M : Model} {A : Around} {E : Value → Shared → Prop} {s : Shared} {tg : Expr} {it : Addr} {u : Value} {o : Obj} {n : String} {vs : Array Value} {Q : Unit → Shared → Prop} (ho : s.heap.get? it = some o) (hc : o.cls = .type n) (hd : o.data = .fields vs)
    (hn : ["enumerate", "zip", "dict_itemiterator", "dict_reverseitemiterator", "odict_iterator", "itertools.zip_longest", "itertools.pairwise"].contains n = false) (hQ : Q () s) : wpAny M A (letOwnedTupleGo tg (.ref it) u) Q E s := by
  unfold letOwnedTupleGo
  cases tg <;> first
    | exact wpAny_pure hQ
    | (cases u <;> first
        | exact wpAny_pure hQ
        | (refine wpAny_bind (wpAny_load ho ?_)
           rw [hc, hd]
           show wpAny M A (if (["enumerate", "zip", "dict_itemiterator", "dict_reverseitemiterator", "odict_iterator", "itertools.zip_longest", "itertools.pairwise"].contains n && vs[0]? == some (rawInt _)) = true then _ else _) Q E s
           rw [if_neg (by intro h; rw [hn, Bool.false_and] at h; cases h)]
           exact wpAny_pure hQ))
def Itl (K : PySem.W.Frag) (a : Addr) : It :=
  ⟨fun i H => ∃ xs x, SqL K H a xs ∧ xs[i]? = some x, fun i H x H' => H' = H ∧ ∀ xs, SqL K H a xs → xs[i]? = some x, fun i H => ∃ xs, SqL K H a xs ∧ xs.length ≤ i⟩
def Itt (K : PySem.W.Frag) (a : Addr) : It :=
  ⟨fun i H => ∃ xs x, SqT K H a xs ∧ xs[i]? = some x, fun i H x H' => H' = H ∧ ∀ xs, SqT K H a xs → xs[i]? = some x, fun i H => ∃ xs, SqT K H a xs ∧ xs.length ≤ i⟩
def Itr (lo : Int) (n : Nat) : It := ⟨fun i _ => i < n, fun i H x H' => H' = H ∧ x = .int (lo + i), fun i _ => n ≤ i⟩
theorem turn_list {P : Program} {w : World} {K : PySem.W.Frag} {tg : Expr} (a it : Addr) : Turn P w K tg (Itl K a) [it] it (fun i h => h.IsListIter it a i) where
  mem := by simp
  obj := fun i h st b hb => by
    have e : b = it := by simpa using hb
    subst e
    obtain ⟨o, e, c, d⟩ := st
    exact ⟨o, e, fun v z => by rw [d] at z; cases z⟩
  keep := fun i h h' st k => st.at fun o e => k it (by simp) o e
  item := by
    intro X hP hw hK hc i pins s σ H E I hf st hg
    subst hP hw hK
    obtain ⟨xs, x, hq, hx⟩ := hg
    obtain ⟨its, rv, p, hz⟩ := I.list hq
    obtain ⟨u, hu, ru⟩ := rv.get hx
    obtain ⟨f0, f1, f2, f3, f4, f5⟩ := hf it (by simp)
    refine wpAny_pyNext_list_item st p.isList (x := u) (by simpa using hu) fun h' st' sb => ?_
    have I1 : Inv X pins σ H { s with heap := h' } := I.turned (t' := s.toks) (fun b o hb e => (sb.2 b hb).trans e) f0 f1 f3 f4 f5
    obtain ⟨o, e, c, d⟩ := id st'
    exact ⟨u, rfl, go_of (s := { s with heap := h' }) e c d (by decide) ⟨x, H, I1, ru, ⟨rfl, fun ys hy => by rw [I.list_inj hy hq]; exact hx⟩, st', fun b hb => (hf b hb).1⟩⟩
  done := by
    intro X hP hw hK hc i pins s σ H E I hf st hg
    subst hP hw hK
    obtain ⟨xs, hq, hx⟩ := hg
    obtain ⟨its, rv, p, hz⟩ := I.list hq
    obtain ⟨f0, f1, f2, f3, f4, f5⟩ := hf it (by simp)
    have hl := rv.length
    exact wpAny_pyNext_list_end (I.ok.hd hc) st p.isList (by simp; omega) fun h' eb => ⟨rfl, I.turned (t' := s.toks) (fun b o hb e => eb b o hb e) f0 f1 f3 f4 f5⟩
  self := fun _ _ _ _ _ st h => wpAny_pyIter_listiter st h
theorem turn_tuple {P : Program} {w : World} {K : PySem.W.Frag} {tg : Expr} (a it : Addr) : Turn P w K tg (Itt K a) [it] it (fun i h => h.IsTupleIter it a i) where
  mem := by simp
  obj := fun i h st b hb => by
    have e : b = it := by simpa using hb
    subst e
    obtain ⟨o, e, c, d⟩ := st
    exact ⟨o, e, fun v z => by rw [d] at z; cases z⟩
  keep := fun i h h' st k => st.at fun o e => k it (by simp) o e
  item := by
    intro X hP hw hK hc i pins s σ H E I hf st hg
    subst hP hw hK
    obtain ⟨xs, x, hq, hx⟩ := hg
    obtain ⟨its, rv, p, hz⟩ := I.tuple hq
    obtain ⟨u, hu, ru⟩ := rv.get hx
    obtain ⟨f0, f1, f2, f3, f4, f5⟩ := hf it (by simp)
    refine wpAny_pyNext_tuple_item st (show s.heap.IsTuple a its.toArray from p) (x := u) (by simpa using hu) fun h' st' sb => ?_
    have I1 : Inv X pins σ H { s with heap := h' } := I.turned (t' := s.toks) (fun b o hb e => (sb.2 b hb).trans e) f0 f1 f3 f4 f5
    obtain ⟨o, e, c, d⟩ := id st'
    exact ⟨u, rfl, go_of (s := { s with heap := h' }) e c d (by decide) ⟨x, H, I1, ru, ⟨rfl, fun ys hy => by rw [I.tuple_inj hy hq]; exact hx⟩, st', fun b hb => (hf b hb).1⟩⟩
  done := by
    intro X hP hw hK hc i pins s σ H E I hf st hg
    subst hP hw hK
    obtain ⟨xs, hq, hx⟩ := hg
    obtain ⟨its, rv, p, hz⟩ := I.tuple hq
    obtain ⟨f0, f1, f2, f3, f4, f5⟩ := hf it (by simp)
    have hl := rv.length
    exact wpAny_pyNext_tuple_end (I.ok.hd hc) st (show s.heap.IsTuple a its.toArray from p) (by simp; omega) fun h' eb => ⟨rfl, I.turned (t' := s.toks) (fun b o hb e => eb b o hb e) f0 f1 f3 f4 f5⟩
  self := fun _ _ _ _ _ st h => wpAny_pyIter_tupleiter st h
theorem turn_range {P : Program} {w : World} {K : PySem.W.Frag} {tg : Expr} (it : Addr) (lo : Int) (n : Nat) : Turn P w K tg (Itr lo n) [it] it (fun i h => IsRangeIter h it (lo + (i : Nat) * 1) ((n : Int) - (i : Nat)) 1) where
  mem := by simp
  obj := fun i h st b hb => by
    have e : b = it := by simpa using hb
    subst e
    exact ⟨_, st, fun v z => by
      have z' : Data.fields _ = Data.cell v := z
      cases z'⟩
  keep := fun i h h' st k => k it (by simp) _ st
  item := by
    intro X hP hw hK hc i pins s σ H E I hf st hg
    subst hP hw hK
    obtain ⟨f0, f1, f2, f3, f4, f5⟩ := hf it (by simp)
    have W := Walks.range (prog := X.prog) (w := X.w) (I.ok.hd hc) it lo 1 n
    refine W.item i s _ _ hg st fun v h' tk hv st' kk => ?_
    obtain ⟨t, rfl⟩ := hv
    have I1 : Inv X pins σ H { s with heap := h', toks := tk } := I.turned (fun b o hb e => kk b o (by simpa using hb) e) f0 f1 f3 f4 f5
    refine ⟨_, rfl, go_of (s := { s with heap := h', toks := tk }) (n := "range_iterator") st' rfl rfl (by decide) ⟨.int (lo + i), H, I1, ⟨t, ?_⟩, ⟨rfl, rfl⟩, st', fun b hb => (hf b hb).1⟩⟩
    rw [Int.mul_one]
  done := by
    intro X hP hw hK hc i pins s σ H E I hf st hg
    subst hP hw hK
    obtain ⟨f0, f1, f2, f3, f4, f5⟩ := hf it (by simp)
    exact wpAny_pyNext_range_end (I.ok.hd hc) st (by have : n ≤ i := hg; omega) fun h' eb => ⟨rfl, I.turned (t' := s.toks) (fun b o hb e => eb b o hb e) f0 f1 f3 f4 f5⟩
  self := fun _ _ _ _ _ st h => wpAny_pyIter_rangeiter st h
end L2
namespace L2
open PySem PySem.Spec PyProof.Rows
section
variable {X : Cx} {tg : Expr}
def iList (K : PySem.W.Frag) (tl : TE) : TI := fun σ H R => tl σ H fun x H1 => ∃ a, x = .ref a ∧ (∃ xs, SqL K H1 a xs) ∧ R (Itl K a) H1
def iTup (K : PySem.W.Frag) (tl : TE) : TI := fun σ H R => tl σ H fun x H1 => ∃ a, x = .ref a ∧ (∃ xs, SqT K H1 a xs) ∧ R (Itt K a) H1
theorem pi_list {l : Expr} {tl : TE} (hl : PE X l tl) : PI X tg l (iList X.K tl) := by
  intro pins s σ H R I h
  refine thn (hl pins s σ H _ I h) fun v s1 ⟨x, H1, I1, r1, q1⟩ => ?_
  obtain ⟨a, e, ⟨xs, hq⟩, q⟩ := q1
  subst e
  cases r1
  obtain ⟨its, rv, p, hz⟩ := I1.list hq
  refine wpAny_pyIter_list p.isList ?_
  refine ⟨s1.heap.objs.size, [s1.heap.objs.size], _, _, H1, rfl, I1.kept (t' := s1.toks) fun b o e => Heap.get?_push_of_some _ e, turn_list a _, ⟨_, Heap.get?_push_size _ rfl, rfl, rfl⟩, fun b hb => ?_, q⟩
  have e : b = s1.heap.objs.size := by simpa using hb
  subst e
  exact I1.fpOk (Nat.le_refl _) (I1.hok.fresh (Nat.le_refl _))
theorem pi_tup {l : Expr} {tl : TE} (hl : PE X l tl) : PI X tg l (iTup X.K tl) := by
  intro pins s σ H R I h
  refine thn (hl pins s σ H _ I h) fun v s1 ⟨x, H1, I1, r1, q1⟩ => ?_
  obtain ⟨a, e, ⟨xs, hq⟩, q⟩ := q1
  subst e
  cases r1
  obtain ⟨its, rv, p, hz⟩ := I1.tuple hq
  refine wpAny_pyIter_tuple (show s1.heap.IsTuple a its.toArray from p) ?_
  refine ⟨s1.heap.objs.size, [s1.heap.objs.size], _, _, H1, rfl, I1.kept (t' := s1.toks) fun b o e => Heap.get?_push_of_some _ e, turn_tuple a _, ⟨_, Heap.get?_push_size _ rfl, rfl, rfl⟩, fun b hb => ?_, q⟩
  have e : b = s1.heap.objs.size := by simpa using hb
  subst e
  exact I1.fpOk (Nat.le_refl _) (I1.hok.fresh (Nat.le_refl _))
theorem range_it {pins : List (Addr × Obj)} {σ : St} {H : Hp} {s : Shared} {R : It → Hp → Prop} {E : Value → Shared → Prop} {lo hi : Int} {t u v : Tok} {tk : Nat} (I : Inv X pins σ H s) (h1 : -(2 ^ 62) ≤ lo) (h2 : lo < 2 ^ 62) (h3 : -(2 ^ 62) ≤ hi) (h4 : hi < 2 ^ 62)
    (q : R (Itr lo (hi - lo).toNat) H) : wpAny (model X.prog X.w) X.A (pyIter (.ref s.heap.objs.size)) (PIE X pins σ tg R) E { s with heap := s.heap.push { cls := .type "range", data := .fields #[.int lo t, .int hi u, .int 1 v] }, toks := tk } := by
  refine wpAny_pyIter_range (IsRange.new ..) (small_one h1 h2 h3 h4) ?_
  have I1 : Inv X pins σ H { s with heap := s.heap.push { cls := .type "range", data := .fields #[.int lo t, .int hi u, .int 1 v] }, toks := tk } := I.kept fun b o e => Heap.get?_push_of_some _ e
  refine ⟨(s.heap.push { cls := .type "range", data := .fields #[.int lo t, .int hi u, .int 1 v] }).objs.size, [(s.heap.push { cls := .type "range", data := .fields #[.int lo t, .int hi u, .int 1 v] }).objs.size], _, _, H, rfl,
    I1.kept (t' := tk) fun b o e => Heap.get?_push_of_some _ e, turn_range _ lo (hi - lo).toNat, ?_, fun b hb => ?_, q⟩
  · have e1 : lo + ((0 : Nat) : Int) * 1 = lo := by simp
    have e2 : (((hi - lo).toNat : Nat) : Int) - ((0 : Nat) : Int) = Builtin.Range.rangeSize lo hi 1 := by rw [rangeSize_one]; split <;> omega
    show IsRangeIter _ _ (lo + ((0 : Nat) : Int) * 1) ((((hi - lo).toNat : Nat) : Int) - ((0 : Nat) : Int)) 1
    rw [e1, e2]
    exact Heap.get?_push_size _ rfl
  · have e : b = (s.heap.push { cls := .type "range", data := .fields #[.int lo t, .int hi u, .int 1 v] }).objs.size := by simpa using hb
    subst e
    exact I1.fpOk (Nat.le_refl _) (I1.hok.fresh (Nat.le_refl _))
def iRng1 (ta : TA) : TI := fun σ H R => ta σ H fun vs H1 => ∃ j : Int, vs = [.int j] ∧ -(2 ^ 62) ≤ j ∧ j < 2 ^ 62 ∧ R (Itr 0 j.toNat) H1
theorem pi_range1 {a : Expr} {ta : TA} {p pos : Pos} (hg : Gl X "range") (hm : X.mg "range" = none) (ha : PA X [a] ta) (hs : starEach [a] X.env = [(false, eval a X.env)] := by rfl) : PI X tg (.Call (.Name "range" p) [a] [] pos) (iRng1 ta) := by
  intro pins s σ H R I h
  refine Call_ (ld_blt I hg hm boot_range (PyProof.Rows.callWith_type1 (thn (ha pos pins s σ H _ I h) fun us s1 ⟨vs, H1, I1, r1, q1⟩ => ?_) hs rfl))
  obtain ⟨j, e, q1, q2, q⟩ := q1
  subst e
  cases r1 with
  | cons r rr =>
    cases rr
    obtain ⟨t, rfl⟩ := r
    exact call_range_1 (range_it I1 (by omega) (by omega) q1 q2 (by simpa using q))
def tFor (wi : TI) (g : TG) (tb : TS) : TS := fun D σ H => wi σ H fun J H1 => ∃ W : Nat → Nat → St → Hp → Prop, (∃ m, W 0 m σ H1) ∧ ∀ i m σ H, W i m σ H →
  (J.stop i H ∧ D.nx σ H) ∨ (J.go i H ∧ ∃ N : St → Hp → Prop, (∀ σ' H', N σ' H' → ∃ m', m' < m ∧ W (i + 1) m' σ' H') ∧ ∀ x H', J.yld i H x H' → g x σ H' fun σ2 H2 => tb { D with nx := N, ct := N, bk := D.nx } σ2 H2)
def pinsAt (fp : List Addr) (h : Heap) : List (Addr × Obj) := fp.filterMap fun b => (h.get? b).map fun o => (b, o)
theorem mem_pinsAt {fp : List Addr} {h : Heap} {b : Addr} {o : Obj} (hb : b ∈ fp) (e : h.get? b = some o) : (b, o) ∈ pinsAt fp h := List.mem_filterMap.mpr ⟨b, hb, by rw [e]; rfl⟩
theorem of_pinsAt {fp : List Addr} {h : Heap} {p : Addr × Obj} (hp : p ∈ pinsAt fp h) : p.1 ∈ fp ∧ h.get? p.1 = some p.2 := by
  obtain ⟨b, hb, e⟩ := List.mem_filterMap.mp hp
  cases q : h.get? b with
  | none => rw [q] at e; cases e
  | some o =>
    rw [q] at e
    have e' : (b, o) = p := Option.some.inj e
    subst e'
    exact ⟨hb, q⟩
theorem Inv.pinned {pins : List (Addr × Obj)} {σ : St} {H : Hp} {s : Shared} {fp : List Addr} (I : Inv X pins σ H s) (hf : ∀ b ∈ fp, FpOk X pins H b) (ho : ∀ b ∈ fp, ∃ o, s.heap.get? b = some o ∧ ∀ v, o.data ≠ .cell v) : Inv X (pins ++ pinsAt fp s.heap) σ H s :=
  I.pins_of fun p hp => (List.mem_append.mp hp).elim (fun z => I.pin p (List.mem_append_right _ z)) fun z => by
    obtain ⟨hb, e⟩ := of_pinsAt z
    obtain ⟨f0, f1, f2, _⟩ := hf p.1 hb
    obtain ⟨o, e', d⟩ := ho p.1 hb
    rw [e] at e'; cases e'
    exact ⟨e, f0, f1, f2, d⟩
theorem Inv.unpinned {pins pl : List (Addr × Obj)} {σ : St} {H : Hp} {s : Shared} (I : Inv X (pins ++ pl) σ H s) : Inv X pins σ H s := I.pins_of fun p hp => I.pin p (List.mem_append_right _ (List.mem_append_left _ hp))
theorem ps_for {iter : Expr} {body : List Stmt} {wi : TI} {g : TG} {tb : TS} {pos : Pos} (hp : PassesOwn (model X.prog X.w) X.A X.env X.xe) (hc : X.calm = true) (hi : PI X tg iter wi) (hg : PG X tg g) (hb : PSs X body tb)
    (hs : ∀ x, foldedSetIterable iter X.env x = pure x := by intro _; rfl) : PS X (.For tg iter body [] pos) (tFor wi g tb) := by
  intro pins s σ H D I h
  refine wpAny_For (thn (hi pins s σ H _ I h) fun v s1 h1 => thn h1 fun itv s2 h2 => ?_) hs
  obtain ⟨it, fp, tn, J, H2, e, I2, T, st2, f2, W, ⟨m0, w0⟩, turn⟩ := h2
  subst e
  -- what stays true of the iterator's objects through the loop
  have stat : ∀ {H' : Hp}, (∀ b ∈ fp, H' b = none) → ∀ b ∈ fp, FpOk X pins H' b := fun hn b hb => ⟨hn b hb, (f2 b hb).2⟩
  refine codeAny_forLoop_any (fun n s' => ∃ i σ' H', Inv X pins σ' H' s' ∧ tn i s'.heap ∧ (∀ b ∈ fp, H' b = none) ∧ W i n σ' H') ?_ m0 ⟨0, σ, H2, I2, st2, fun b hb => (f2 b hb).1, w0⟩
  rintro n s3 ⟨i, σ3, H3, I3, st3, fr3, w3⟩
  rcases turn i n σ3 H3 w3 with ⟨stop, qn⟩ | ⟨go, N, hN, step⟩
  · refine wpAny_passesOwn hp (thn (T.done X rfl rfl rfl hc i pins s3 σ3 H3 X.xe I3 (stat fr3) st3 stop) fun r s4 ⟨hr, I4⟩ => ?_)
    subst hr
    exact wpAny_execs_nil ⟨σ3, H3, I4, qn⟩
  · refine wpAny_passesOwn hp (thn (T.item X rfl rfl rfl hc i pins s3 σ3 H3 X.xe I3 (stat fr3) st3 go) fun r s4 ⟨u, hr, h4⟩ => ?_)
    subst hr
    refine wpAny_passesOwn hp (thn h4 fun _ s5 ⟨x, H5, I5, r5, y5, st5, fr5⟩ => ?_)
    have I5' := I5.pinned (stat fr5) (T.obj _ _ st5)
    refine wpAny_passesOwn hp (thn (hg _ s5 σ3 H5 x u _ I5' r5 (step x H5 y5)) fun _ s6 ⟨σ6, H6, I6, q6⟩ => ?_)
    refine wpAny_passesOwn hp (thn (hb _ s6 σ6 H6 _ I6 q6) fun f s7 q7 => ?_)
    have again : ∀ {σ7 : St} {H7 : Hp}, Inv X (pins ++ pinsAt fp s5.heap) σ7 H7 s7 → N σ7 H7 → ∃ m, m < n ∧ ∃ i σ' H', Inv X pins σ' H' s7 ∧ tn i s7.heap ∧ (∀ b ∈ fp, H' b = none) ∧ W i m σ' H' := fun {σ7 H7} I7 n7 => by
      obtain ⟨m', hm, w7⟩ := hN σ7 H7 n7
      refine ⟨m', hm, i + 1, σ7, H7, I7.unpinned, T.keep _ _ _ st5 fun b hb o e => (I7.pin (b, o) (List.mem_append_right _ (List.mem_append_right _ (mem_pinsAt hb e)))).1, fun b hb => ?_, w7⟩
      obtain ⟨o, e, d⟩ := T.obj _ _ st5 b hb
      exact (I7.pin (b, o) (List.mem_append_right _ (List.mem_append_right _ (mem_pinsAt hb e)))).2.1
    cases f with
    | next => obtain ⟨σ7, H7, I7, n7⟩ := q7; exact again I7 n7
    | cont => obtain ⟨σ7, H7, I7, n7⟩ := q7; exact again I7 n7
    | brk => obtain ⟨σ7, H7, I7, q7⟩ := q7; exact ⟨σ7, H7, I7.unpinned, q7⟩
    | ret v => obtain ⟨x7, σ7, H7, I7, r7, q7⟩ := q7; exact ⟨x7, σ7, H7, I7.unpinned, r7, q7⟩
end
theorem for_list {K : PySem.W.Frag} {a : Addr} {xs : List V} {g : TG} {tb : TS} {D : Ends} {σ : St} {H : Hp} (Pv : Nat → St → Hp → Prop) (h0 : Pv 0 σ H) (hl : ∀ i σ H, i ≤ xs.length → Pv i σ H → SqL K H a xs)
    (hs : ∀ i x σ H, xs[i]? = some x → Pv i σ H → g x σ H fun σ2 H2 => tb { D with nx := Pv (i + 1), ct := Pv (i + 1), bk := D.nx } σ2 H2) (hd : ∀ σ H, Pv xs.length σ H → D.nx σ H) :
    ∃ W : Nat → Nat → St → Hp → Prop, (∃ m, W 0 m σ H) ∧ ∀ i m σ H, W i m σ H →
      ((Itl K a).stop i H ∧ D.nx σ H) ∨ ((Itl K a).go i H ∧ ∃ N : St → Hp → Prop, (∀ σ' H', N σ' H' → ∃ m', m' < m ∧ W (i + 1) m' σ' H') ∧ ∀ x H', (Itl K a).yld i H x H' → g x σ H' fun σ2 H2 => tb { D with nx := N, ct := N, bk := D.nx } σ2 H2) := by
  refine ⟨fun i m σ H => m = xs.length - i ∧ i ≤ xs.length ∧ Pv i σ H, ⟨xs.length, by simp, Nat.zero_le _, h0⟩, ?_⟩
  rintro i m σ H ⟨rfl, hi, p⟩
  have q := hl i σ H hi p
  by_cases hlt : i < xs.length
  · refine .inr ⟨⟨xs, xs[i], q, by simp [hlt]⟩, Pv (i + 1), fun σ' H' p' => ⟨xs.length - (i + 1), by omega, rfl, hlt, p'⟩, fun x H' y => ?_⟩
    obtain ⟨e, y⟩ := y
    subst e
    exact hs i x σ _ (y xs q) p
  · have e : i = xs.length := by omega
    subst e
    exact .inl ⟨⟨xs, q, Nat.le_refl _⟩, hd σ H p⟩
end L2
namespace L2
open PySem PySem.Spec PyProof.Rows
abbrev R2 := V → V → Hp → VK → Prop
def OpR (X : Cx) (f : Value → Value → Sem Value) (r : R2) : Prop :=
  ∀ (pins : List (Addr × Obj)) (s : Shared) (σ : St) (H : Hp) (x y : V) (v u : Value) (Q : VK), Inv X pins σ H s → RelV x v → RelV y u → r x y H Q →
    wpAny (model X.prog X.w) X.A (f v u) (EP X pins σ Q) X.xe s
def UnR (X : Cx) (f : Value → Sem Value) (r : V → Hp → VK → Prop) : Prop :=
  ∀ (pins : List (Addr × Obj)) (s : Shared) (σ : St) (H : Hp) (x : V) (v : Value) (Q : VK), Inv X pins σ H s → RelV x v → r x H Q →
    wpAny (model X.prog X.w) X.A (f v) (EP X pins σ Q) X.xe s
def CallR (X : Cx) (f : Value) (r : List V → Hp → VK → Prop) : Prop :=
  ∀ (pins : List (Addr × Obj)) (s : Shared) (σ : St) (H : Hp) (xs : List V) (us : List Value) (Q : VK), Inv X pins σ H s → Vals xs us → r xs H Q →
    wpAny (model X.prog X.w) X.A (call f us) (EP X pins σ Q) X.xe s
def TruR (X : Cx) (r : V → Hp → (Bool → Hp → Prop) → Prop) : Prop :=
  ∀ (pins : List (Addr × Obj)) (s : Shared) (σ : St) (H : Hp) (x : V) (v : Value) (Q : Bool → Hp → Prop), Inv X pins σ H s → RelV x v → r x H Q →
    wpAny (model X.prog X.w) X.A (truthy v) (TP X pins σ Q) X.xe s
def tOp (r : R2) (ta tb : TE) : TE := fun σ H Q => ta σ H fun x H1 => tb σ H1 fun y H2 => r x y H2 Q
def tUn (r : V → Hp → VK → Prop) (ta : TE) : TE := fun σ H Q => ta σ H fun x H1 => r x H1 Q
def rI (C : Int → Int → Prop) (g : Int → Int → V) : R2 := fun x y H Q => ∃ i j, x = .int i ∧ y = .int j ∧ C i j ∧ Q (g i j) H
def rI0 (g : Int → Int → V) : R2 := fun x y H Q => ∃ i j, x = .int i ∧ y = .int j ∧ Q (g i j) H
def rU (g : Int → V) : V → Hp → VK → Prop := fun x H Q => ∃ i, x = .int i ∧ Q (g i) H
section
variable {X : Cx} {a b c : Expr} {ta tb tc : TE} {pos : Pos}
theorem binT (ha : PE X a ta) (hb : PE X b tb) {pins : List (Addr × Obj)} {s : Shared} {σ : St} {H : Hp} {R : V → V → Hp → Prop} (I : Inv X pins σ H s)
    (h : ta σ H fun x H1 => tb σ H1 fun y H2 => R x y H2) {Q : Value → Shared → Prop} {f : Value → Value → Sem Value}
    (hf : ∀ v u s2 x y H2, Inv X pins σ H2 s2 → RelV x v → RelV y u → R x y H2 → wpAny (model X.prog X.w) X.A (f v u) Q X.xe s2) :
    wpAny (model X.prog X.w) X.A (eval a X.env) (fun v s₁ => wpAny (model X.prog X.w) X.A (eval b X.env) (fun u s₂ => wpAny (model X.prog X.w) X.A (f v u) Q X.xe s₂) X.xe s₁) X.xe s := by
  refine thn (ha pins s σ H _ I h) fun v s1 ⟨x, H1, I1, r1, q1⟩ => ?_
  refine thn (hb pins s1 σ H1 _ I1 q1) fun u s2 ⟨y, H2, I2, r2, q2⟩ => ?_
  exact hf v u s2 x y H2 I2 r1 r2 q2
theorem pe_op {op : Operator} {r : R2} (ho : OpR X (binaryOp op) r) (ha : PE X a ta) (hb : PE X b tb) : PE X (.BinOp a op b pos) (tOp r ta tb) := by
  intro pins s σ H Q I h
  exact wpAny_BinOp (binT ha hb I h fun v u s2 x y H2 I2 rx ry q => ho pins s2 σ H2 x y v u Q I2 rx ry q)
theorem pe_un {op : UnaryOp} {r : V → Hp → VK → Prop} (ho : UnR X (unaryOp op) r) (ha : PE X a ta) : PE X (.UnaryOp op a pos) (tUn r ta) := by
  intro pins s σ H Q I h
  exact UnaryOp_ (thn (ha pins s σ H _ I h) fun v s1 ⟨x, H1, I1, r1, q1⟩ => ho pins s1 σ H1 x v Q I1 r1 q1)
theorem opI {f : Value → Value → Sem Value} {C : Int → Int → Prop} {g : Int → Int → Int}
    (rule : ∀ (i j : Int) (t u : Tok) (s : Shared) (Q : Value → Shared → Prop) (E : Value → Shared → Prop), C i j → Q (.int (g i j) s.toks) { s with toks := s.toks + 1 } → wpAny (model X.prog X.w) X.A (f (.int i t) (.int j u)) Q E s) :
    OpR X f (rI C fun i j => .int (g i j)) := by
  intro pins s σ H x y v u Q I rx ry h
  obtain ⟨i, j, rfl, rfl, hc, q⟩ := h
  obtain ⟨t, rfl⟩ := rx
  obtain ⟨t', rfl⟩ := ry
  exact rule i j t t' s _ _ hc ⟨.int (g i j), H, I.tok _, ⟨_, rfl⟩, q⟩
theorem opI0 {f : Value → Value → Sem Value} {g : Int → Int → Int}
    (rule : ∀ (i j : Int) (t u : Tok) (s : Shared) (Q : Value → Shared → Prop) (E : Value → Shared → Prop), Q (.int (g i j) s.toks) { s with toks := s.toks + 1 } → wpAny (model X.prog X.w) X.A (f (.int i t) (.int j u)) Q E s) :
    OpR X f (rI0 fun i j => .int (g i j)) := by
  intro pins s σ H x y v u Q I rx ry h
  obtain ⟨i, j, rfl, rfl, q⟩ := h
  obtain ⟨t, rfl⟩ := rx
  obtain ⟨t', rfl⟩ := ry
  exact rule i j t t' s _ _ ⟨.int (g i j), H, I.tok _, ⟨_, rfl⟩, q⟩
theorem opB0 {f : Value → Value → Sem Value} {g : Int → Int → Bool}
    (rule : ∀ (i j : Int) (t u : Tok) (s : Shared) (Q : Value → Shared → Prop) (E : Value → Shared → Prop), Q (.bool (g i j)) s → wpAny (model X.prog X.w) X.A (f (.int i t) (.int j u)) Q E s) :
    OpR X f (rI0 fun i j => .bl (g i j)) := by
  intro pins s σ H x y v u Q I rx ry h
  obtain ⟨i, j, rfl, rfl, q⟩ := h
  obtain ⟨t, rfl⟩ := rx
  obtain ⟨t', rfl⟩ := ry
  exact rule i j t t' s _ _ ⟨.bl (g i j), H, I, rfl, q⟩
def CMul (i j : Int) : Prop := (-(2 ^ 64) < i ∧ i < 2 ^ 64) ∨ (-(2 ^ 64) < j ∧ j < 2 ^ 64)
theorem CMul.ok {i j : Int} (h : CMul i j) : IntMulOk i j := by
  rcases h with ⟨h1, h2⟩ | ⟨h1, h2⟩
  · exact .of_left (intBits_le_64 h1 h2)
  · exact .of_right (intBits_le_64 h1 h2)
theorem op_add : OpR X (binaryOp .Add) (rI0 fun i j => .int (i + j)) := opI0 fun _ _ _ _ _ _ _ q => add_int q
theorem op_sub : OpR X (binaryOp .Sub) (rI0 fun i j => .int (i - j)) := opI0 fun _ _ _ _ _ _ _ q => sub_int q
theorem op_mod : OpR X (binaryOp .Mod) (rI (fun _ j => 0 < j) fun i j => .int (i % j)) := opI fun i j _ _ _ _ _ hc q => by
  have h1 : (0 : Int) < j := hc
  exact mod_int' (by omega) (by rw [Int.fmod_eq_emod_of_nonneg i (by omega)]; exact q)
theorem unI {f : Value → Sem Value} {g : Int → Int}
    (rule : ∀ (i : Int) (t : Tok) (s : Shared) (Q : Value → Shared → Prop) (E : Value → Shared → Prop), Q (.int (g i) s.toks) { s with toks := s.toks + 1 } → wpAny (model X.prog X.w) X.A (f (.int i t)) Q E s) :
    UnR X f (rU fun i => .int (g i)) := by
  intro pins s σ H x v Q I rx h
  obtain ⟨i, rfl, q⟩ := h
  obtain ⟨t, rfl⟩ := rx
  exact rule i t s _ _ ⟨.int (g i), H, I.tok _, ⟨_, rfl⟩, q⟩
theorem un_neg : UnR X (unaryOp .USub) (rU fun i => .int (-i)) := unI fun _ _ _ _ _ q => neg_int q
end
def scal : V → V → Bool
  | .non, .non => true | .non, .int _ => true | .int _, .non => true | .non, .bl _ => true | .bl _, .non => true | .non, .str _ => true | .str _, .non => true
  | .int _, .int _ => true | .bl _, .bl _ => true | .str _, .str _ => true | .byt _, .byt _ => true
  | .int _, .str _ => true | .str _, .int _ => true | .bl _, .str _ => true | .str _, .bl _ => true
  | _, _ => false
def rEq : R2 := fun x y H Q => scal x y = true ∧ Q (.bl (decide (x = y))) H
theorem dec_int {i j : Int} : decide (V.int i = V.int j) = (i == j) := by
  rw [Bool.eq_iff_iff]
  simp
theorem dec_bl {i j : Bool} : decide (V.bl i = V.bl j) = (i == j) := by
  rw [Bool.eq_iff_iff]
  simp
theorem dec_str {i j : Str} : decide (V.str i = V.str j) = (i == j) := by
  rw [Bool.eq_iff_iff]
  simp
theorem dec_byt {i j : Array UInt8} : decide (V.byt i = V.byt j) = (i.toList == j.toList) := by
  rw [Bool.eq_iff_iff]
  cases i
  cases j
  simp
section
variable {X : Cx} {a b c : Expr} {ta tb tc : TE} {pos : Pos}
theorem fin_bl {pins : List (Addr × Obj)} {σ : St} {H : Hp} {s : Shared} {Q : VK} {k k' : Bool} (I : Inv X pins σ H s) (q : Q (.bl k) H) (e : k = k') : EP X pins σ Q (.bool k') s := by
  subst e
  exact ⟨.bl k, H, I, rfl, q⟩
theorem op_eq : OpR X (compareOp .Eq) rEq := by
  intro pins s σ H x y v u Q I rx ry h
  obtain ⟨hs, q⟩ := h
  cases x with
  | non =>
    cases rx
    cases y with
    | non => cases ry; exact PySem.EqNone.eq_none_none (fin_bl I q (by simp))
    | bl j => cases ry; exact PySem.EqNone.eq_none_bool (fin_bl I q (by simp))
    | int j => obtain ⟨t', rfl⟩ := ry; exact PySem.EqNone.eq_none_int (fin_bl I q (by simp))
    | str j => obtain ⟨t', rfl⟩ := ry; exact PySem.EqNone.eq_none_str (fin_bl I q (by simp))
    | _ => exact absurd (show false = true from hs) Bool.false_ne_true
  | bl i =>
    cases rx
    cases y with
    | non => cases ry; exact PySem.EqNone.eq_bool_none (fin_bl I q (by simp))
    | bl j => cases ry; exact eq_bool (fin_bl I q dec_bl)
    | str j => obtain ⟨t', rfl⟩ := ry; exact PySem.EqMixed.eq_bool_str (fin_bl I q (by simp))
    | _ => exact absurd (show false = true from hs) Bool.false_ne_true
  | int i =>
    obtain ⟨t, rfl⟩ := rx
    cases y with
    | non => cases ry; exact PySem.EqNone.eq_int_none (fin_bl I q (by simp))
    | int j => obtain ⟨t', rfl⟩ := ry; exact eq_int (fin_bl I q dec_int)
    | str j => obtain ⟨t', rfl⟩ := ry; exact PySem.EqMixed.eq_int_str (fin_bl I q (by simp))
    | _ => exact absurd (show false = true from hs) Bool.false_ne_true
  | str i =>
    obtain ⟨t, rfl⟩ := rx
    cases y with
    | non => cases ry; exact PySem.EqNone.eq_str_none (fin_bl I q (by simp))
    | bl j => cases ry; exact PySem.EqMixed.eq_str_bool (fin_bl I q (by simp))
    | int j => obtain ⟨t', rfl⟩ := ry; exact PySem.EqMixed.eq_str_int (fin_bl I q (by simp))
    | str j => obtain ⟨t', rfl⟩ := ry; exact eq_str (fin_bl I q dec_str)
    | _ => exact absurd (show false = true from hs) Bool.false_ne_true
  | byt i =>
    obtain ⟨t, rfl⟩ := rx
    cases y with
    | byt j => obtain ⟨t', rfl⟩ := ry; exact PySem.W.eq_bytes (fin_bl I q dec_byt)
    | _ => exact absurd (show false = true from hs) Bool.false_ne_true
  | _ => cases y <;> exact absurd (show false = true from hs) Bool.false_ne_true
theorem op_lt : OpR X (compareOp .Lt) (rI0 fun i j => .bl (decide (i < j))) := opB0 fun _ _ _ _ _ _ _ q => lt_int q
theorem op_le : OpR X (compareOp .LtE) (rI0 fun i j => .bl (decide (i ≤ j))) := opB0 fun _ _ _ _ _ _ _ q => le_int q
theorem op_gt : OpR X (compareOp .Gt) (rI0 fun i j => .bl (decide (j < i))) := opB0 fun _ _ _ _ _ _ _ q => gt_int q
theorem nomark (b : Expr) {op : CmpOp} (h : op ≠ .In := by decide) (h2 : op ≠ .NotIn := by decide) : behindInMarks op b = false := by
  have e1 : (op == CmpOp.In) = false := by cases op <;> first | rfl | exact absurd rfl h
  have e2 : (op == CmpOp.NotIn) = false := by cases op <;> first | rfl | exact absurd rfl h2
  cases b <;> simp [behindInMarks, e1, e2]
theorem pe_cmpR {op : CmpOp} {r : R2} (ho : OpR X (compareOp op) r) (ha : PE X a ta) (hb : PE X b tb) (hm : behindInMarks op b = false) : PE X (.Compare a [op] [b] pos) (tOp r ta tb) := by
  intro pins s σ H Q I h
  exact wpAny_Compare1 (binT ha hb I h fun v u s2 x y H2 I2 rx ry q => ho pins s2 σ H2 x y v u Q I2 rx ry q) hm
def tTest (t : TE) : TT := fun σ H Q => t σ H fun x H' => ∃ k, x = .bl k ∧ Q k H'
theorem pt_cmpR {op : CmpOp} {r : R2} (ho : OpR X (compareOp op) r) (ha : PE X a ta) (hb : PE X b tb) (hm : behindInMarks op b = false) : PT X (.Compare a [op] [b] pos) (tTest (tOp r ta tb)) := by
  intro pins s σ H Q I h
  refine wpAny_isTrue_Compare1 (thn (ha pins s σ H _ I h) fun v s1 ⟨x, H1, I1, r1, q1⟩ => thn (hb pins s1 σ H1 _ I1 q1) fun u s2 ⟨y, H2, I2, r2, q2⟩ =>
    thn (ho pins s2 σ H2 x y v u _ I2 r1 r2 q2) fun c s3 ⟨z, H3, I3, r3, k, e, q3⟩ => ?_) hm
  subst e
  cases r3
  exact wpAny_truthy_bool ⟨H3, I3, q3⟩
def tChain (r r' : R2) (ta tb tc : TE) : TE := fun σ H Q => ta σ H fun x H1 => tb σ H1 fun y H2 => r x y H2 fun z H3 => ∃ k, z = .bl k ∧
  (if k = true then tc σ H3 fun w' H4 => r' y w' H4 Q else Q (.bl false) H3)
theorem pe_chain {op op' : CmpOp} {r r' : R2} (ho : OpR X (compareOp op) r) (ho' : OpR X (compareOp op') r') (ha : PE X a ta) (hb : PE X b tb) (hc : PE X c tc)
    (hm : lastMarks [op, op'] [b, c] = false := by with_unfolding_all rfl) : PE X (.Compare a [op, op'] [b, c] pos) (tChain r r' ta tb tc) := by
  intro pins s σ H Q I h
  refine Compare_chain (thn (ha pins s σ H _ I h) fun v s1 ⟨x, H1, I1, r1, q1⟩ => chain_link (thn (hb pins s1 σ H1 _ I1 q1) fun u s2 ⟨y, H2, I2, r2, q2⟩ =>
    thn (ho pins s2 σ H2 x y v u _ I2 r1 r2 q2) fun d s3 ⟨z, H3, I3, r3, k, e, q3⟩ => ?_)) hm
  subst e
  cases r3
  refine wpAny_truthy_bool ?_
  cases k with
  | false => exact ite_ff ⟨.bl false, H3, I3, rfl, q3⟩
  | true => exact ite_tt (chain_last (thn (hc pins s3 σ H3 _ I3 q3) fun w' s4 ⟨z', H4, I4, r4, q4⟩ => ho' pins s4 σ H4 y z' u w' Q I4 r2 r4 q4))
def TruV (K : PySem.W.Frag) (x : V) (H : Hp) (k : Bool) : Prop :=
  match x with
  | .non => k = false
  | .bl b => k = b
  | .int i => k = (i != 0)
  | .str y => y.length ≤ sizeLine ∧ k = ((y.length : Int) != 0)
  | .byt y => y.size ≤ sizeLine ∧ k = ((y.size : Int) != 0)
  | .ref p => (∃ xs, SqL K H p xs ∧ k = !xs.isEmpty) ∨ (∃ xs, SqT K H p xs ∧ k = !xs.isEmpty) ∨ ∃ kvs, H p = some (.dK kvs) ∧ k = !kvs.isEmpty
  | _ => False
theorem isEmpty_kv {κ : Type} {kvs : List (κ × V)} {vs : List (κ × Value)} (r : KV kvs vs) : (!vs.isEmpty) = !kvs.isEmpty := by
  cases r <;> rfl
theorem isEmpty_of {xs : List V} {its : List Value} (r : Vals xs its) : (!its.toArray.isEmpty) = !xs.isEmpty := by
  cases r <;> simp
theorem line63 : (sizeLine : Nat) < 2 ^ 63 := by rw [sizeLine_eq]; decide
theorem tru_ok : TruR X (fun x H Q => ∃ k, TruV X.K x H k ∧ Q k H) := by
  intro pins s σ H x v Q I rx h
  obtain ⟨k, e, q⟩ := h
  have hl := line63
  have hs : sizeLine = 16777216 := sizeLine_eq
  cases x with
  | non =>
    cases rx
    have e' : k = false := e
    subst e'
    exact truthy_none ⟨H, I, q⟩
  | bl b =>
    cases rx
    have e' : k = b := e
    subst e'
    exact wpAny_truthy_bool ⟨H, I, q⟩
  | int i =>
    obtain ⟨t, rfl⟩ := rx
    have e' : k = (i != 0) := e
    subst e'
    exact PySem.P.truthy_int ⟨H, I, q⟩
  | str y =>
    obtain ⟨t, rfl⟩ := rx
    obtain ⟨hy, e'⟩ : y.length ≤ sizeLine ∧ k = ((y.length : Int) != 0) := e
    subst e'
    exact PySem.P.truthy_str (by omega) ⟨H, I.tok _, q⟩
  | byt y =>
    obtain ⟨t, rfl⟩ := rx
    obtain ⟨hy, e'⟩ : y.size ≤ sizeLine ∧ k = ((y.size : Int) != 0) := e
    subst e'
    exact PySem.W.truthy_bytes (by omega) ⟨H, I.tok _, q⟩
  | ref p =>
    cases rx
    have e' : (∃ xs, SqL X.K H p xs ∧ k = !xs.isEmpty) ∨ (∃ xs, SqT X.K H p xs ∧ k = !xs.isEmpty) ∨ ∃ kvs, H p = some (.dK kvs) ∧ k = !kvs.isEmpty := e
    rcases e' with ⟨xs, hx, e'⟩ | ⟨xs, hx, e'⟩ | ⟨kvs, hx, e'⟩
    · subst e'
      obtain ⟨its, r, pl, hz⟩ := I.list hx
      have hlen := r.length
      exact wpAny_truthy_list pl.isList (by simp only [List.size_toArray]; omega) ⟨H, I.tok _, by rw [isEmpty_of r]; exact q⟩
    · subst e'
      obtain ⟨its, r, pl, hz⟩ := I.tuple hx
      have hlen := r.length
      exact truthy_tuple pl (by simp only [List.size_toArray]; omega) ⟨H, I.tok _, by rw [isEmpty_of r]; exact q⟩
    · subst e'
      obtain ⟨hz, hS, vs, r, m⟩ : kvs.length ≤ sizeLine ∧ (p == sysModules) = false ∧ ∃ vs, KV kvs vs ∧ s.heap.DictOf (mixKind X.prog X.w) p vs := I.hok p _ hx
      have hlen : kvs.length = vs.length := Paired.length r
      exact wpAny_truthy_dict hS m (by omega) ⟨H, I.tok _, by rw [isEmpty_kv r]; exact q⟩
  | _ => exact (show False from e).elim
theorem pt_truth (ha : PE X a ta) (he : ∀ whole, isTrue a X.env whole = (do let v ← whole; standAt a.pos; holding [v] (truthy v))) :
    PT X a (fun σ H Q => ta σ H fun x H' => ∃ k, TruV X.K x H' k ∧ Q k H') := by
  intro pins s σ H Q I h
  exact isTrue_plain (thn (ha pins s σ H _ I h) fun v s1 ⟨x, H1, I1, r1, q1⟩ => tru_ok pins s1 σ H1 x v Q I1 r1 q1) (he _)
theorem vals1 {x : V} {us : List Value} (r : Vals [x] us) : ∃ u, us = [u] ∧ RelV x u := by
  cases r with
  | cons r1 r2 => cases r2; exact ⟨_, rfl, r1⟩
theorem call_abs : CallR X (.builtin "abs") (fun xs H Q => ∃ i, xs = [.int i] ∧ Q (.int (if i < 0 then -i else i)) H) := by
  intro pins s σ H xs us Q I r h
  obtain ⟨i, rfl, q⟩ := h
  obtain ⟨u, rfl, t, rfl⟩ := vals1 r
  exact call_abs_int fun u tk => ⟨.int (if i < 0 then -i else i), H, I.tok _, ⟨_, rfl⟩, q⟩
end
end L2
namespace L2
open PySem PySem.Spec PyProof.Rows
structure ObjM (h : Heap) (x dx C : Addr) (mA : Str → Option Value) : Prop where
  obj : h.get? x = some (PySem.W.instObj C dx)
  ns : h.Ns1 dx mA
  ne : dx ≠ x
theorem lookIn_ns {h : Heap} {dx : Addr} {mA : Str → Option Value} (n : h.Ns1 dx mA) : ∃ od, h.get? dx = some od ∧ ∀ name, PySem.W.lookIn name od = some (mA name) := by
  obtain ⟨o, es, ep, ho, hd, hk, _, hm⟩ := n
  refine ⟨o, ho, fun name => ?_⟩
  have e := hm name
  unfold nsFind findBy at e
  rw [← Array.find?_toList] at e
  unfold PySem.W.lookIn
  rw [hd]
  dsimp only
  split
  · rename_i y q
    rw [q] at e
    exact congrArg some e
  · rename_i q
    rw [q] at e
    have a : es.toList.any (·.refKey) = false := by
      rw [List.any_eq_false]
      intro y hy
      obtain ⟨z, t, hkey⟩ := hk y (Array.mem_toList_iff.mp hy)
      simp [DictEntry.refKey, hkey]
    have a' : ¬ es.toList.any (·.refKey) = true := by rw [a]; exact Bool.false_ne_true
    rw [if_neg a']
    exact congrArg some e
theorem ObjM.look {h : Heap} {x dx C : Addr} {mA : Str → Option Value} (I : ObjM h x dx C mA) : ∃ od, PySem.W.InstAt h x (PySem.W.instObj C dx) C (some od) ∧ ∀ name, PySem.W.lookIn name od = some (mA name) :=
  let ⟨od, ho, hl⟩ := lookIn_ns I.ns
  ⟨od, ⟨I.obj, rfl, rfl, ho⟩, hl⟩
section
variable {prog : Program} {w : World} {A : Around} {E : Value → Shared → Prop} {s : Shared} {K : PySem.W.Frag} {x dx C f : Addr} {mA : Str → Option Value} {name : Str} {v : Value}
end
section
variable {P : Program} {w : World} {H H' : Hp} {h h' : Heap} {a C dx : Addr} {fs fs' : List (Str × V)}
end
structure Cls (K : PySem.W.Frag) (C : Addr) : Prop where
  pg : PySem.W.plainGet K C Str.empty = true
  hd : PySem.W.hasDictIn K C = true
  po : PySem.W.plainOver K C = true
  sa : PySem.W.findIn K (.ref C) "__setattr__" = some (some (.builtin "object.__setattr__"))
theorem Cls.get {K : PySem.W.Frag} {C : Addr} (c : Cls K C) (f : Str) : PySem.W.plainGet K C f = true := c.pg
structure Con (K : PySem.W.Frag) (C : Addr) (f : Str) (v : V) (u : Value) : Prop where
  at_ : PySem.W.findIn K (.ref C) f = some (some u)
  rel : RelV v u
  get : PySem.W.specialIn K u "__get__" = some none
  cp : PySem.W.copiedNames.contains f = false
structure Meth (K : PySem.W.Frag) (C : Addr) (m : Str) (f : Addr) : Prop where
  at_ : PySem.W.findIn K (.ref C) m = some (some (.ref f))
  fn : PySem.W.isFn K (.ref f) = true
  kp : PySem.W.keepIn K (.ref f) = true
section
variable {X : Cx} {pins : List (Addr × Obj)} {σ : St} {H : Hp} {s : Shared} {a C dx : Addr} {fs : List (Str × V)} {f : Str} {v : V} {A : Around} {E : Value → Shared → Prop}
end
section
variable {X : Cx} {o e value : Expr} {f : Str} {pos pos' tpos : Pos} {ta tv : TE}
end
section
variable {X : Cx} {pins : List (Addr × Obj)} {σ : St} {H : Hp} {s : Shared} {A : Around} {E : Value → Shared → Prop} {Q : Value → Shared → Prop} {c : Value} {b : Bool}
inductive TyOf (K : PySem.W.Frag) (H : Hp) : V → Value → Prop where
  | non : TyOf K H .non (.type "NoneType")
  | bl (x : Bool) : TyOf K H (.bl x) (.type "bool")
  | int (i : Int) : TyOf K H (.int i) (.type "int")
  | str (x : Str) : TyOf K H (.str x) (.type "str")
  | flt (x : UInt64) : TyOf K H (.flt x) (.type "float")
  | lst {a : Addr} {xs : List V} (e : H a = some (.lst xs)) : TyOf K H (.ref a) (.type "list")
  | frz {a : Addr} {o : Obj} {xs : List V} (e : H a = some (.frz o (.lst xs))) : TyOf K H (.ref a) (.type "list")
  | tup {a : Addr} {xs : List V} (e : H a = some (.tup xs)) : TyOf K H (.ref a) (.type "tuple")
  | dK {a : Addr} {kvs : List (Key × V)} (e : H a = some (.dK kvs)) : TyOf K H (.ref a) (.type "dict")
  | dT {a : Addr} {kvs : List (List Key × V)} (e : H a = some (.dT kvs)) : TyOf K H (.ref a) (.type "dict")
  | ins {a C dx : Addr} {fs : List (Str × V)} (e : H a = some (.ins C dx fs)) (cl : Cls K C) (ha : PySem.W.findIn K (.ref C) "__class__" = some (some (.builtin "object.__class__")))
      (hn : PySem.W.specialIn K (.builtin "object.__class__") "__get__" = some (some (.builtin "getset_descriptor.__get__"))) (htk : PySem.W.takesIn K (.builtin "object.__class__") = some true)
      (hm : PySem.W.mroIn K C (.type "object") = some true) : TyOf K H (.ref a) (.ref C)
end
end L2
namespace L2
open PySem PySem.Spec PyProof.Rows
structure Room (k : Nat) (A : Around) : Prop where
  hd : A.handled = none
  dp : A.depth + 3 * k + 5 < recursionLimit
  un : A.units + 16 * k + 200 < cLine
theorem Room.mono {j k : Nat} {A : Around} (r : Room k A) (h : j ≤ k) : Room j A := ⟨r.hd, by have := r.dp; omega, by have := r.un; omega⟩
theorem Room.deeper {k : Nat} {A : Around} (r : Room (k + 1) A) (env : Env) : Room k (A.deeper env) :=
  ⟨r.hd, by have := r.dp; show A.depth + 1 + 3 * k + 5 < _; omega, by have := r.un; show A.units + 3 + 16 * k + 200 < _; omega⟩
theorem Room.in1 {k : Nat} {A : Around} (r : Room (k + 1) A) : Room k A.in1 :=
  ⟨r.hd, by have := r.dp; show A.depth + 3 * k + 5 < _; omega, by have := r.un; show A.units + 1 + 16 * k + 200 < _; omega⟩
theorem Room.depth {k : Nat} {A : Around} (r : Room k A) : A.depth < recursionLimit := by have := r.dp; omega
theorem Room.units {k : Nat} {A : Around} (r : Room k A) : A.units + 64 < cLine := by have := r.un; omega
def tNil : TA := fun _ H Q => Q [] H
def tCons (ta : TE) (tr : TA) : TA := fun σ H Q => ta σ H fun x H1 => tr σ H1 fun xs H2 => Q (x :: xs) H2
section
variable {X : Cx} {e : Expr} {es : List Expr} {te : TE} {t : TA} {pos : Pos}
theorem pa_nil : PA X [] tNil := fun _ _ _ _ H Q I h => Calls.spliced_nil ⟨[], H, I, .nil, h⟩
theorem pa_cons (ha : PE X e te) (hr : PA X es t) (hs : starEach (e :: es) X.env = (false, eval e X.env) :: starEach es X.env := by rfl) : PA X (e :: es) (tCons te t) := by
  intro pos pins s σ H Q I h
  rw [hs]
  show wpAny _ _ (spliced ((false, eval e X.env) :: backTo pos (starEach es X.env))) _ _ s
  refine Calls.spliced_cons (thn (ha pins s σ H _ I h) fun u s1 ⟨x, H1, I1, r1, q1⟩ => ?_)
  exact thn (hr pos pins s1 σ H1 _ I1 q1) fun us s2 ⟨xs, H2, I2, r2, q2⟩ => ⟨x :: xs, H2, I2, .cons r1 r2, q2⟩
def tTup (t : TA) : TE := fun σ H Q => t σ H fun xs H1 => xs.length ≤ sizeLine ∧ ∀ p, H1 p = none → Q (.ref p) (upd H1 p (.tup xs))
def tLst (t : TA) : TE := fun σ H Q => t σ H fun xs H1 => xs.length ≤ sizeLine ∧ ∀ p, H1 p = none → Q (.ref p) (upd H1 p (.lst xs))
theorem pe_tup {x1} (h : PA X es t) : PE X (.Tuple es x1 pos) (tTup t) := by
  intro pins s σ H Q I hq
  refine wpAny_Tuple_spliced (thn (h pos pins s σ H _ I hq) fun us s1 ⟨xs, H1, I1, r, z, q⟩ => ⟨by rw [← r.length]; exact z, ?_⟩)
  have hf : H1 s1.heap.objs.size = none := I1.hok.fresh (Nat.le_refl _)
  refine ⟨.ref s1.heap.objs.size, upd H1 s1.heap.objs.size (.tup xs), I1.laid (t' := s1.toks) (fun b u e => Heap.get?_push_of_some _ e) (Nat.le_refl _) ?_, rfl, q _ hf⟩
  exact ⟨z, us, r, ⟨_, Heap.get?_push_size _ rfl, rfl, _, rfl⟩⟩
theorem pe_lst (h : PA X es t) : PE X (.List es pos) (tLst t) := by
  intro pins s σ H Q I hq
  refine wpAny_List_spliced (thn (h pos pins s σ H _ I hq) fun us s1 ⟨xs, H1, I1, r, z, q⟩ => ⟨by rw [← r.length]; exact z, ?_⟩)
  have hf : H1 s1.heap.objs.size = none := I1.hok.fresh (Nat.le_refl _)
  refine ⟨.ref s1.heap.objs.size, upd H1 s1.heap.objs.size (.lst xs), I1.laid (t' := s1.toks) (fun b u e => Heap.get?_push_of_some _ e) (Nat.le_refl _) ?_, rfl, q _ hf⟩
  exact ⟨z, us, 0, r, Heap.get?_push_size _ rfl⟩
end
abbrev Sp := List V → Hp → VK → XK → Prop
abbrev CXT := List Env → Hp → Shared → XK → Value → Shared → Prop
structure Env0 (P : Program) (w : World) (K : PySem.W.Frag) (mg : Str → Option Value) (base : Heap) (A : Around) (outer : List Env) (s : Shared) (H : Hp) : Prop where
  frames : A.frames = some outer
  mod : Mod K mg base
  bs : ∀ b o, base.get? b = some o → s.heap.get? b = some o ∧ H b = none
  bsz : base.objs.size ≤ s.heap.objs.size
  funs : s.heap.FunFrames base outer
  frf : ∀ b ∈ frs outer, H b = none
  hok : HOk P w H s.heap
  bare : AllBare s.gens
def CE (outer : List Env) (P : Program) (w : World) (H : Hp) (s : Shared) (Q : VK) (u : Value) (s' : Shared) : Prop :=
  ∃ v H', s'.os = s.os ∧ AllBare s'.gens ∧ Un (frs outer) [] H H' s.heap s'.heap ∧ HOk P w H' s'.heap ∧ RelV v u ∧ Q v H'
def CR (CX : CXT) (outer : List Env) (P : Program) (w : World) (H : Hp) (s : Shared) (Q : VK) (E : XK) (r : Result) (s' : Shared) : Prop :=
  match r with
  | .ok (.ret u) => CE outer P w H s Q u s'
  | .ok _ => False
  | .error e => CX outer H s E e s'
structure FnOk (P : Program) (w : World) (K : PySem.W.Frag) (mg : Str → Option Value) (base : Heap) (CX : CXT) (k : Nat) (f : Addr) (fd : FuncData) (ps : List Str) (sp : Sp) : Prop where
  len : ∀ vs H Q E, sp vs H Q E → vs.length = ps.length
  run : ∀ (A : Around) (outer : List Env) (s : Shared) (H : Hp) (args : Args) (us : List Value) (vs : List V) (Q : VK) (E : XK), Room k A → Env0 P w K mg base A outer s H → BindsTo s fd args (ps.zip us) → Vals vs us → sp vs H Q E →
    codeAny (model P w) A (.call (.ref f) args) (CR CX outer P w H s Q E) s
theorem FnOk.mono {P : Program} {w : World} {K : PySem.W.Frag} {mg : Str → Option Value} {base : Heap} {CX : CXT} {j k : Nat} {f : Addr} {fd : FuncData} {ps : List Str} {sp : Sp} (F : FnOk P w K mg base CX j f fd ps sp) (h : j ≤ k) :
    FnOk P w K mg base CX k f fd ps sp := ⟨F.len, fun A outer s H args us vs Q E hr => F.run A outer s H args us vs Q E (hr.mono h)⟩
theorem FnOk.imp {P : Program} {w : World} {K : PySem.W.Frag} {mg : Str → Option Value} {base : Heap} {CX : CXT} {k : Nat} {f : Addr} {fd : FuncData} {ps : List Str} {sp sp' : Sp} (F : FnOk P w K mg base CX k f fd ps sp)
    (h : ∀ vs H Q E, sp' vs H Q E → sp vs H Q E) : FnOk P w K mg base CX k f fd ps sp' :=
  ⟨fun vs H Q E q => F.len vs H Q E (h _ _ _ _ q), fun A outer s H args us vs Q E hr he hb hv hs => F.run A outer s H args us vs Q E hr he hb hv (h _ _ _ _ hs)⟩
theorem Env0.in1 {P : Program} {w : World} {K : PySem.W.Frag} {mg : Str → Option Value} {base : Heap} {A : Around} {outer : List Env} {s : Shared} {H : Hp} (e : Env0 P w K mg base A outer s H) :
    Env0 P w K mg base A.in1 outer s H := ⟨e.frames, e.mod, e.bs, e.bsz, e.funs, e.frf, e.hok, e.bare⟩
section
variable {X : Cx} {pins : List (Addr × Obj)} {σ : St} {H : Hp} {s s' : Shared}
theorem Inv.env0 (I : Inv X pins σ H s) : Env0 X.prog X.w X.K X.mg X.base X.A X.stack s H :=
  ⟨I.ok.frames, I.ok.mod, I.bs, Nat.le_trans I.ok.bsz I.sz, I.stack, I.stkFree, I.hok, I.bare⟩
theorem Inv.after {Q : VK} {u : Value} (I : Inv X pins σ H s) (h : CE X.stack X.prog X.w H s Q u s') : EP X pins σ Q u s' := by
  obtain ⟨v, H', os, bare, un, hok, r, q⟩ := h
  obtain ⟨hh, g, d, t, os'⟩ := s'
  obtain rfl : os' = s.os := os
  exact ⟨v, H', I.call (h' := hh) (g' := g) (d' := d) (t' := t) (ch := []) un hok bare (fun b z => absurd z (by simp)), r, q⟩
end
def tCall (sp : Sp) (dvs : List V) (E : XK) (t : TA) : TE := fun σ H Q => t σ H fun vs H1 => sp (vs ++ dvs) H1 Q E
def Binds (K : PySem.W.Frag) (fd : FuncData) (ps : List Str) (ds : List Value) : Prop :=
  ∀ (s : Shared) (us : List Value), K.In s.heap → (us ++ ds).length = ps.length → BindsTo s fd ⟨us, []⟩ (ps.zip (us ++ ds))
theorem Binds.all {K : PySem.W.Frag} {fd : FuncData} {ps : List Str} (h : ∀ us : List Value, us.length = ps.length → bindArgs fd ⟨us, []⟩ = pure (ps.zip us)) : Binds K fd ps [] := fun s us _ hl => by
  rw [List.append_nil] at hl ⊢
  exact .of_eq (h us hl)
def Passes (CX : CXT) (X : Cx) (E : XK) : Prop := ∀ (pins : List (Addr × Obj)) (σ : St) (H : Hp) (s : Shared) (e : Value) (s' : Shared), Inv X pins σ H s → CX X.stack H s E e s' → X.xe e s'
section
variable {X : Cx} {CX : CXT} {k : Nat} {f C : Addr} {fd : FuncData} {ps : List Str} {sp : Sp} {dvs : List V} {ds : List Value} {E : XK} {x m : Str} {p pos apos : Pos} {e o : Expr} {es : List Expr} {ta : TE} {t : TA}
theorem run_fn {pins : List (Addr × Obj)} {σ : St} {H : Hp} {s : Shared} {Q : VK} {us : List Value} {vs : List V} (F : FnOk X.prog X.w X.K X.mg X.base CX k f fd ps sp) (hr : Room k X.A) (hb : Binds X.K fd ps ds) (hd : Vals dvs ds) (hx : Passes CX X E)
    (I : Inv X pins σ H s) (r : Vals vs us) (h : sp (vs ++ dvs) H Q E) : wpAny (model X.prog X.w) X.A (call (.ref f) us) (EP X pins σ Q) X.xe s := by
  have r2 : Vals (vs ++ dvs) (us ++ ds) := r.append hd
  have hl : (us ++ ds).length = ps.length := by rw [← r2.length]; exact F.len _ _ _ _ h
  refine wpAny_call (codeAny_mono (F.run X.A X.stack s H ⟨us, []⟩ (us ++ ds) (vs ++ dvs) Q E hr I.env0 (hb s us I.kIn hl) r2 h) fun r s' hq => ?_)
  cases r with
  | error e => exact hx pins σ H s e s' I hq
  | ok fl =>
    cases fl with
    | ret u => exact I.after hq
    | next => exact False.elim hq
    | brk => exact False.elim hq
    | cont => exact False.elim hq
theorem pe_call (F : FnOk X.prog X.w X.K X.mg X.base CX k f fd ps sp) (hr : Room k X.A) (hg : Gl X x) (hm : X.mg x = some (.ref f)) (hk : PySem.W.keepIn X.K (.ref f) = true) (hb : Binds X.K fd ps ds) (hd : Vals dvs ds) (hx : Passes CX X E)
    (ha : PA X (e :: es) t) (hdb : (x == ("__debug__" : Str)) = false := by decide) (he : starEach (e :: es) X.env = (false, eval e X.env) :: starEach es X.env := by rfl) (hpl : (backTo pos (starEach es X.env)).any (·.1) = false := by rfl) :
    PE X (.Call (.Name x p) (e :: es) [] pos) (tCall sp dvs E t) := by
  intro pins s σ H Q I h
  refine wpAny_Call_Name_kw (ld_glob I hg hm ?_ hdb)
  refine PySem.W.callWith_K (h₀ := X.base) I.ok.mod.kin hk (thn (ha pos pins s σ H _ I h) fun us s1 ⟨vs, H1, I1, r, q⟩ => ⟨I1.kIn, ?_⟩) he hpl
  exact run_fn F hr hb hd hx I1 r q
structure Mk (K : PySem.W.Frag) (C f : Addr) : Prop where
  makes : PySem.W.makesIn K C = true
  init : PySem.W.findIn K (.ref C) "__init__" = some (some (.ref f))
  fn : PySem.W.isFn K (.ref f) = true
  kp : PySem.W.keepIn K (.ref C) = true
end
def PK (X : Cx) (kws : List Keyword) (t : TA) : Prop :=
  ∀ (pos : Pos) (pins : List (Addr × Obj)) (s : Shared) (σ : St) (H : Hp) (Q : List V → Hp → Prop), Inv X pins σ H s → t σ H Q → wpAny (model X.prog X.w) X.A (evalAll ((backToKw pos (keywordEach kws X.env)).map (·.2))) (AP X pins σ Q) X.xe s
section
variable {X : Cx} {CX : CXT} {k : Nat} {f C : Addr} {fd : FuncData} {ps ks : List Str} {sp : Sp} {E : XK} {x m : Str} {p pos apos kpos : Pos} {e o : Expr} {es : List Expr} {kws : List Keyword} {te ta : TE} {t tk : TA} {nm : Option Str}
theorem pk_nil : PK X [] tNil := fun _ _ _ _ H Q I h => wpAny_evalAll_nil ⟨[], H, I, .nil, h⟩
theorem pk_cons (ha : PE X e te) (hr : PK X kws t) : PK X (⟨nm, e, kpos⟩ :: kws) (tCons te t) := by
  intro pos pins s σ H Q I h
  show wpAny _ _ (evalAll ((do let v ← eval e X.env; standAt pos; pure v) :: (backToKw pos (keywordEach kws X.env)).map (·.2))) _ _ s
  refine wpAny_evalAll_cons (wpAny_bind (thn (ha pins s σ H _ I h) fun u s1 ⟨x, H1, I1, r1, q1⟩ => wpAny_bind (wpAny_standAt (wpAny_pure ?_))))
  exact thn (hr pos pins s1 σ H1 _ I1 q1) fun us s2 ⟨xs, H2, I2, r2, q2⟩ => ⟨x :: xs, H2, I2, .cons r1 r2, q2⟩
structure KBinds (K : PySem.W.Frag) (fd : FuncData) (ps ks : List Str) (g : List Value → List Value → List Value) (gV : List V → List V → List V) : Prop where
  to : ∀ (s : Shared) (us ws : List Value), K.In s.heap → (g us ws).length = ps.length → BindsTo s fd ⟨us, ks.zip ws⟩ (ps.zip (g us ws))
  rel : ∀ {vs : List V} {us : List Value} {zs : List V} {ws : List Value}, Vals vs us → Vals zs ws → Vals (gV vs zs) (g us ws)
variable {g : List Value → List Value → List Value} {gV : List V → List V → List V}
end
structure FnScope (N P : List Str) (sc : Scope) : Prop where
  kind : sc.kind = .function
  co : sc.isCoroutine = false
  gen : sc.isGenerator = false
  nd : N.Nodup
  pre : N.take P.length = P
  par : ∀ x ∈ P, sc.names.lookup x = some .local ∨ sc.names.lookup x = some .cell
  nofree : ∀ y ∈ sc.names, y.2 ≠ .free
theorem bindL_out {kindOf : Str → Option NameKind} {x : Str} : ∀ {binds : List (Str × Value)} {m : Str → Option Value}, (∀ v, (x, v) ∉ binds) → bindL kindOf binds m x = m x
  | [], _, _ => rfl
  | (n, v) :: r, m, h => by
    unfold bindL
    rw [bindL_out fun w hw => h w (List.mem_cons_of_mem _ hw)]
    split
    · have : x ≠ n := by rintro rfl; exact h v List.mem_cons_self
      simp [this]
    · rfl
theorem bindC_out {kindOf : Str → Option NameKind} {x : Str} : ∀ {binds : List (Str × Value)} {m : Str → Option Value}, (∀ v, (x, v) ∉ binds) → bindC kindOf binds m x = m x
  | [], _, _ => rfl
  | (n, v) :: r, m, h => by
    unfold bindC
    rw [bindC_out fun w hw => h w (List.mem_cons_of_mem _ hw)]
    split
    · rfl
    · have : x ≠ n := by rintro rfl; exact h v List.mem_cons_self
      simp [this]
theorem bindL_get {kindOf : Str → Option NameKind} {x : Str} {v : Value} : ∀ {P : List Str} {vs : List Value} {i : Nat} {m : Str → Option Value}, P.Nodup → P[i]? = some x → vs[i]? = some v → kindOf x = some .local →
    bindL kindOf (P.zip vs) m x = some v
  | [], _, _, _, _, h, _, _ => by simp at h
  | _ :: _, [], _, _, _, _, h, _ => by simp at h
  | p :: P, w :: vs, 0, m, nd, h1, h2, hk => by
    simp at h1 h2; subst h1; subst h2
    show bindL kindOf ((p, w) :: P.zip vs) m p = _
    unfold bindL
    rw [bindL_out fun v hv => (List.nodup_cons.mp nd).1 (List.of_mem_zip hv).1, if_pos hk]
    simp
  | p :: P, w :: vs, i + 1, m, nd, h1, h2, hk => by
    show bindL kindOf ((p, w) :: P.zip vs) m x = _
    unfold bindL
    exact bindL_get (i := i) (List.nodup_cons.mp nd).2 (by simpa using h1) (by simpa using h2) hk
theorem bindC_get {kindOf : Str → Option NameKind} {x : Str} {v : Value} : ∀ {P : List Str} {vs : List Value} {i : Nat} {m : Str → Option Value}, P.Nodup → P[i]? = some x → vs[i]? = some v → kindOf x ≠ some .local →
    bindC kindOf (P.zip vs) m x = some v
  | [], _, _, _, _, h, _, _ => by simp at h
  | _ :: _, [], _, _, _, _, h, _ => by simp at h
  | p :: P, w :: vs, 0, m, nd, h1, h2, hk => by
    simp at h1 h2; subst h1; subst h2
    show bindC kindOf ((p, w) :: P.zip vs) m p = _
    unfold bindC
    rw [bindC_out fun v hv => (List.nodup_cons.mp nd).1 (List.of_mem_zip hv).1, if_neg hk]
    simp
  | p :: P, w :: vs, i + 1, m, nd, h1, h2, hk => by
    show bindC kindOf ((p, w) :: P.zip vs) m x = _
    unfold bindC
    exact bindC_get (i := i) (List.nodup_cons.mp nd).2 (by simpa using h1) (by simpa using h2) hk
def start (N : List Str) (vs : List V) : St := vs.map some ++ List.replicate (N.length - vs.length) none
def cxOf (CX : CXT) (P : Program) (w : World) (K : PySem.W.Frag) (mg : Str → Option Value) (base : Heap) (N : List Str) (qual : Str) (scope : Scope) (f : Addr) (cd : Value) (A : Around) (outer : List Env) (s : Shared) (H : Hp) (E : XK) : Cx where
  prog := P
  w := w
  K := K
  mg := mg
  base := base
  A := A.deeper (envOfC qual scope s.heap.objs.size f cd)
  N := N
  s_0 := s
  H_0 := H
  env := envOfC qual scope s.heap.objs.size f cd
  outer := outer
  stack := envOfC qual scope s.heap.objs.size f cd :: outer
  ex := []
  calm := true
  fn := fun _ => true
  pn := []
  xe := fun e s' => wpAny (model P w) (A.deeper (envOfC qual scope s.heap.objs.size f cd)) (leaving (envOfC qual scope s.heap.objs.size f cd) e) (fun _ s'' => CX outer H s E e s'') (fun e' s'' => CX outer H s E e' s'') s'
theorem cell_has {sc : Scope} {n : Nat} {x : Str} (h : sc.names.lookup x = some .cell) : ∃ c, (cellsFrom n sc.names []).lookup x = some c := by
  have q := PySem.W.cellsFrom_some sc.names n [] (.inl h)
  exact Option.isSome_iff_exists.mp q
theorem inv_start {CX : CXT} {P : Program} {w : World} {K : PySem.W.Frag} {mg : Str → Option Value} {base : Heap} {N ps : List Str} {qual : Str} {scope : Scope} {f : Addr} {cd : Value} {A : Around} {outer : List Env} {s s1 : Shared} {H : Hp} {E : XK} {us : List Value} {vs : List V}
    (S : FnScope N ps scope) (hd : A.handled = none) (e0 : Env0 P w K mg base A outer s H) (hl : vs.length = ps.length) (r : Vals vs us)
    (x : InCallC s s.heap.objs.size (bindL (envOfC qual scope s.heap.objs.size f cd).kindOf (ps.zip us) fun _ => none) (cellsFrom (s.heap.objs.size + 1) scope.names []) (bindC (envOfC qual scope s.heap.objs.size f cd).kindOf (ps.zip us) fun _ => none) s1) :
    Inv (cxOf CX P w K mg base N qual scope f cd A outer s H E) [] (start N vs) H s1 := by
  have hpl : ps.length ≤ N.length := by have := congrArg List.length S.pre; rw [List.length_take] at this; omega
  obtain ⟨h1, tk, rfl, hk⟩ := x.done
  have noA : ∀ b : Addr, b ∉ (cxOf CX P w K mg base N qual scope f cd A outer s H E).ex := fun b z => absurd (show b ∈ ([] : List Addr) from z) (by simp)
  refine ⟨⟨e0.mod, S.kind, rfl, rfl, Nat.le_refl _, fun y z c h1 h2 => ?_, fun y hy => ?_, fun y c _ h => ?_, fun _ => hd, Around.frames_deeper e0.frames, .inr ⟨rfl, rfl⟩, fun b z => absurd z (noA b), e0.bs, e0.bsz, fun b _ _ => noA b, fun b z => absurd z (noA b), e0.funs, e0.frf⟩,
    rfl, e0.bare, Un.kept hk, ⟨_, x.toInCall.ns, fun i y v h1 h2 h3 => ?_⟩, fun y c h => ⟨_, x.cell y c h⟩, e0.hok.fresh (Nat.le_refl _), fun y c h => ?_, fun p hp => absurd (show p ∈ ([] : List (Addr × Obj)) from hp) (by simp), e0.hok.kept hk, ?_⟩
  · exact name_of_addr x.apart (PySem.mem_of_lookup h1) (PySem.mem_of_lookup h2)
  · have hy : scope.names.lookup y = some .cell ∨ scope.names.lookup y = some .free := hy
    rcases hy with hy | hy
    · exact cell_has hy
    · exact absurd rfl (S.nofree _ (PySem.mem_of_lookup hy))
  · exact Nat.le_of_lt (x.above y c (PySem.mem_of_lookup h))
  · have hi : i < vs.length := by
      unfold start at h2
      by_cases hi : i < vs.length
      · exact hi
      · rw [List.getElem?_append_right (by simpa using hi)] at h2
        rw [List.getElem?_replicate] at h2
        split at h2 <;> cases h2
    have ha : vs[i]? = some v := by
      unfold start at h2
      rw [List.getElem?_append_left (by simpa using hi), List.getElem?_map] at h2
      cases e : vs[i]? with
      | none => rw [e] at h2; cases h2
      | some a => rw [e] at h2; cases h2; rfl
    obtain ⟨u, hu, rv⟩ := r.get ha
    have hp : ps[i]? = some y := by
      rw [← S.pre, List.getElem?_take_of_lt (by omega)]; exact h1
    have ndP : ps.Nodup := by rw [← S.pre]; exact S.nd.sublist (List.take_sublist _ _)
    refine ⟨u, rv, ?_⟩
    rcases S.par y (List.mem_of_getElem? hp) with k | k
    · exact .inl ⟨k, bindL_get ndP hp hu k⟩
    · obtain ⟨c, e⟩ := cell_has (n := s.heap.objs.size + 1) k
      refine .inr ⟨.inl k, c, e, ?_⟩
      have q := x.cell y c e
      rw [bindC_get ndP hp hu (by show scope.names.lookup y ≠ _; rw [k]; decide)] at q
      exact q
  · exact e0.hok.fresh (Nat.le_of_lt (x.above y c (PySem.mem_of_lookup h)))
  · unfold start
    show _ = N.length
    rw [List.length_append, List.length_map, List.length_replicate]
    omega
theorem fn_of {CX : CXT} {P : Program} {w : World} {K : PySem.W.Frag} {mg : Str → Option Value} {base : Heap} {k : Nat} {f : Addr} {name qual : Str} {params : Arguments} {body : List Stmt} {scope : Scope} {dV kV doc pm cdv ct oc : Value} {an od : Option Addr}
    {osl : Array (Option Value)} {N ps : List Str} {sp : Sp} (lk : K.lookup f = some ⟨oc, od, .func (PySem.W.fnOf name qual params body scope dV kV doc pm an cdv ct), osl⟩) (hcd : PySem.W.codeIn K cdv qual = true) (S : FnScope N ps scope)
    (len : ∀ vs H Q E, sp vs H Q E → vs.length = ps.length)
    (hbody : ∀ (A : Around) (outer : List Env) (s : Shared) (H : Hp) (vs : List V) (Q : VK) (E : XK), Room k (A.deeper (envOfC qual scope s.heap.objs.size f cdv)) → sp vs H Q E →
      ∃ t, PSs (cxOf CX P w K mg base N qual scope f cdv A outer s H E) body t ∧ t { nx := fun _ H' => Q .non H', rt := Q } (start N vs) H) :
    FnOk P w K mg base CX (k + 1) f (PySem.W.fnOf name qual params body scope dV kV doc pm an cdv ct) ps sp := by
  refine ⟨len, fun A outer s H args us vs Q E hr e0 hb r hsp => ?_⟩
  have hl := len _ _ _ _ hsp
  have KX : K.In s.heap := e0.mod.kin.keeps fun b o e => (e0.bs b o e).1
  have lim : s.heap.NoLimit := e0.mod.nolimit.keeps fun b o e => (e0.bs b o e).1
  have hkind : ∀ y ∈ ps.zip us, scope.names.lookup y.1 = some .local ∨ (scope.names.lookup y.1 = some .cell ∧ ((cellsFrom (s.heap.objs.size + 1) scope.names []).lookup y.1).isSome = true) := fun ⟨n, v⟩ hy => by
    rcases S.par n (List.of_mem_zip hy).1 with q | q
    · exact .inl q
    · exact .inr ⟨q, PySem.W.cellsFrom_some _ _ _ (.inl q)⟩
  refine codeAny_call_function hr.depth (KX _ _ lk) rfl S.co S.gen rfl (PySem.W.codeRec_of KX hcd) (hb _ _ _ _ ?_)
  refine wpAny_newFunctionEnv_cells S.kind hkind fun env he s1 x => ?_
  subst he
  refine ⟨lim.keeps x.toInCall.keep, codeAny_func ?_⟩
  obtain ⟨t, ht, hq⟩ := hbody A outer s H vs Q E (hr.deeper _) hsp
  have I : Inv (cxOf CX P w K mg base N qual scope f cdv A outer s H E) [] (start N vs) H s1 := inv_start S hr.hd e0 hl r x
  refine wpAny_mono (ht [] s1 (start N vs) H _ I hq) (fun fl s' hs => ?_) fun e s' hs => hs
  have fin : ∀ {σ' : St} {H' : Hp} {v : V} {u : Value}, Inv (cxOf CX P w K mg base N qual scope f cdv A outer s H E) [] σ' H' s' → RelV v u → Q v H' → CE outer P w H s Q u s' :=
    fun {σ' H' v u} J rv q => ⟨v, H', J.os, J.bare, J.base, J.hok, rv, q⟩
  cases fl with
  | ret u =>
    obtain ⟨v, σ', H', J, rv, q⟩ := hs
    exact fin J rv q
  | next =>
    obtain ⟨σ', H', J, q⟩ := hs
    exact fin (v := V.non) (u := Value.none) J rfl q
  | brk =>
    obtain ⟨_, _, _, q⟩ := hs
    exact False.elim q
  | cont =>
    obtain ⟨_, _, _, q⟩ := hs
    exact False.elim q
end L2
namespace L2
open PySem PySem.Spec PyProof.Rows
section
variable {X : Cx} {x : Str} {p pos : Pos} {e : Expr} {es : List Expr} {t : TA} {id T : String} {r : List V → Hp → VK → Prop}
def tCB (r : List V → Hp → VK → Prop) (t : TA) : TE := fun σ H Q => t σ H fun vs H1 => r vs H1 Q
theorem pe_callB (hc : CallR X (.builtin id) r) (hg : Gl X x) (hm : X.mg x = none) (hv : bootBuiltins x = some (.builtin id)) (ha : PA X (e :: es) t) (hn : x ≠ "__name__" := by decide) (hdb : (x == ("__debug__" : Str)) = false := by decide)
    (he : starEach (e :: es) X.env = (false, eval e X.env) :: starEach es X.env := by rfl) (hpl : (backTo pos (starEach es X.env)).any (·.1) = false := by rfl) : PE X (.Call (.Name x p) (e :: es) [] pos) (tCB r t) := by
  intro pins s σ H Q I h
  refine wpAny_Call_Name_kw (ld_blt I hg hm hv ?_ hn hdb)
  exact PyProof.Rows.callWith_builtin1 (thn (ha pos pins s σ H _ I h) fun us s1 ⟨vs, H1, I1, r1, q1⟩ => hc pins s1 σ H1 vs us Q I1 r1 q1) he hpl
theorem pe_callTy (hc : CallR X (.type T) r) (hg : Gl X x) (hm : X.mg x = none) (hv : bootBuiltins x = some (.type T)) (ha : PA X (e :: es) t) (hn : x ≠ "__name__" := by decide) (hdb : (x == ("__debug__" : Str)) = false := by decide)
    (he : starEach (e :: es) X.env = (false, eval e X.env) :: starEach es X.env := by rfl) (hpl : (backTo pos (starEach es X.env)).any (·.1) = false := by rfl) : PE X (.Call (.Name x p) (e :: es) [] pos) (tCB r t) := by
  intro pins s σ H Q I h
  refine wpAny_Call_Name_kw (ld_blt I hg hm hv ?_ hn hdb)
  exact PyProof.Rows.callWith_type1 (thn (ha pos pins s σ H _ I h) fun us s1 ⟨vs, H1, I1, r1, q1⟩ => hc pins s1 σ H1 vs us Q I1 r1 q1) he hpl
end
end L2
namespace HT
open PySem PyProof.Rows
def lexLt : List Int → List Int → Bool
  | [], [] => false
  | [], _ :: _ => true
  | _ :: _, [] => false
  | x :: xs, y :: ys => if x = y then lexLt xs ys else decide (x < y)
section
open PySem.SeqAt
open PySem.AutoSeq1 (wpAny_loadPart')
open PySem.MeetsSeq PySem.MeetsSeq2 PySem.MeetsSeq3
end
section
variable {prog : Program} {w : World} {A : Around} {E : Value → Shared → Prop} {s : Shared}
end
end HT
namespace L2
open PySem PySem.Spec PyProof.Rows
abbrev TO := St → Hp → (Option Int → Hp → Prop) → Prop
section
variable {X : Cx} {e : Expr} {te : TE} {lo hi : Option Expr} {tl th : TO} {pos p2 : Pos}
end
end L2
namespace L2
open PySem PySem.Spec PyProof.Rows
def ixN (n : Nat) (i : Int) : Option Nat := if 0 ≤ i then (if i < n then some i.toNat else none) else if -(n : Int) ≤ i then some (i + n).toNat else none
def atI {α : Type} (xs : List α) (i : Int) : Option α := (ixN xs.length i).bind fun j => xs[j]?
theorem ixN_seq {n : Nat} {i : Int} {j : Nat} (h : ixN n i = some j) : seqIndex? i n = some j ∧ j < n ∧ -(n : Int) ≤ i ∧ i < n := by
  unfold ixN at h
  by_cases h0 : 0 ≤ i
  · rw [if_pos h0] at h
    by_cases h1 : i < n
    · rw [if_pos h1] at h
      have e : i.toNat = j := Option.some.inj h
      exact ⟨by rw [seqIndex_of h0 h1, e], by omega, by omega, h1⟩
    · rw [if_neg h1] at h; cases h
  · rw [if_neg h0] at h
    by_cases h1 : -(n : Int) ≤ i
    · rw [if_pos h1] at h
      have e : (i + n).toNat = j := Option.some.inj h
      exact ⟨by rw [seqIndex_neg (by omega) h1, e], by omega, h1, by omega⟩
    · rw [if_neg h1] at h; cases h
theorem atI_get {α : Type} {xs : List α} {i : Int} {v : α} (h : atI xs i = some v) : ∃ j, seqIndex? i xs.length = some j ∧ xs[j]? = some v ∧ j < xs.length ∧ -(xs.length : Int) ≤ i ∧ i < xs.length := by
  unfold atI at h
  cases e : ixN xs.length i with
  | none => rw [e] at h; cases h
  | some j =>
    rw [e] at h
    obtain ⟨h1, h2, h3, h4⟩ := ixN_seq e
    exact ⟨j, h1, h, h2, h3, h4⟩
theorem atI_nat {α : Type} {xs : List α} {j : Nat} {v : α} (h : xs[j]? = some v) : atI xs (j : Int) = some v := by
  have hj : j < xs.length := (List.getElem?_eq_some_iff.mp h).1
  have e : ixN xs.length (j : Int) = some j := by
    unfold ixN
    rw [if_pos (by omega), if_pos (by omega)]; simp
  unfold atI; rw [e]; exact h
theorem atI_last {α : Type} (xs : List α) (v : α) : atI (xs ++ [v]) (-1) = some v := by
  have hl : (xs ++ [v]).length = xs.length + 1 := by simp
  have e : ixN (xs ++ [v]).length (-1) = some xs.length := by
    unfold ixN
    rw [hl, if_neg (by decide), if_pos (by omega)]
    congr 1
    omega
  unfold atI
  rw [e]
  show (xs ++ [v])[xs.length]? = some v
  simp
def PlainIx (b : Expr) : Prop := ∀ o i, subscripted b false o i = operate [o, i] (getItem o i)
def IxR (X : Cx) (r : R2) : Prop :=
  ∀ (value slice : Expr) (pins : List (Addr × Obj)) (s : Shared) (σ : St) (H : Hp) (x y : V) (v u : Value) (Q : VK), Inv X pins σ H s → RelV x v → RelV y u → r x y H Q →
    subscripted slice false v u = operate [v, u] (getItem v u) → wpAny (model X.prog X.w) X.A (subscriptTail value slice v u) (EP X pins σ Q) X.xe s
def MtR (X : Cx) (id : String) (r : V → List V → Hp → VK → Prop) : Prop :=
  ∀ (pins : List (Addr × Obj)) (s : Shared) (σ : St) (H : Hp) (x : V) (xs : List V) (v : Value) (us : List Value) (Q : VK), Inv X pins σ H s → RelV x v → Vals xs us → r x xs H Q →
    wpAny (model X.prog X.w) X.A (call (.builtin id) (v :: us)) (EP X pins σ Q) X.xe s
section
variable {X : Cx} {a b : Expr} {ta tb : TE} {pos : Pos}
theorem pe_ix {r : R2} (hr : IxR X r) (ha : PE X a ta) (hb : PE X b tb) (hs : PlainIx b) : PE X (.Subscript a b pos) (tOp r ta tb) := by
  intro pins s σ H Q I h
  exact Subscript_ (binT ha hb I h fun v u s2 x y H2 I2 rx ry q => hr a b pins s2 σ H2 x y v u Q I2 rx ry q (hs _ _))
def rIxL (K : PySem.W.Frag) : R2 := fun x y H Q => ∃ p xs i v, x = .ref p ∧ y = .int i ∧ SqL K H p xs ∧ atI xs i = some v ∧ Q v H
def rIxT (K : PySem.W.Frag) : R2 := fun x y H Q => ∃ p xs i v, x = .ref p ∧ y = .int i ∧ SqT K H p xs ∧ atI xs i = some v ∧ Q v H
theorem ix_list : IxR X (rIxL X.K) := by
  intro value slice pins s σ H x y v u Q I rx ry h hs
  obtain ⟨p, xs, i, z, rfl, rfl, hq, he, q⟩ := h
  cases rx
  obtain ⟨t, rfl⟩ := ry
  obtain ⟨its, r, pl, hz⟩ := I.list hq
  obtain ⟨j, h1, h2, h3, h4, h5⟩ := atI_get he
  obtain ⟨w, ew, rw'⟩ := r.get h2
  have hl := r.length
  have hn := line63
  have fin : EP X pins σ Q w s := ⟨z, H, I, rw', q⟩
  by_cases h0 : 0 ≤ i
  · have hj : i.toNat = j := by
      rw [seqIndex_of h0 h5] at h1
      exact Option.some.inj h1
    exact item_listR pl.isList h0 (by omega) (by rw [hj]; simpa using ew) fin hs
  · have hj : (i + (its.toArray.size : Int)).toNat = j := by
      rw [seqIndex_neg (by omega) h4] at h1
      rw [List.size_toArray, ← hl]
      exact Option.some.inj h1
    exact subscriptTail_builtinR (x := w) pl.isList.typeIs slot_list_getitem.lookup
      (wpAny_getItem_list_neg (Q := fun r s' => r = w ∧ EP X pins σ Q r s') pl.isList (by omega) (by rw [List.size_toArray] <;> omega) (by omega) (by rw [hj]; simpa using ew) ⟨rfl, fin⟩) hs
theorem ix_tup : IxR X (rIxT X.K) := by
  intro value slice pins s σ H x y v u Q I rx ry h hs
  obtain ⟨p, xs, i, z, rfl, rfl, hq, he, q⟩ := h
  cases rx
  obtain ⟨t, rfl⟩ := ry
  obtain ⟨its, r, pl, hz⟩ := I.tuple hq
  obtain ⟨j, h1, h2, h3, h4, h5⟩ := atI_get he
  obtain ⟨w, ew, rw'⟩ := r.get h2
  have hl := r.length
  have hn := line63
  have fin : EP X pins σ Q w s := ⟨z, H, I, rw', q⟩
  exact subscriptTail_builtinR (x := w) pl.typeIs slot_tuple_getitem.lookup
    (getItem_tuple (j := j) (Q := fun r s' => r = w ∧ EP X pins σ Q r s') pl (by omega) (by omega) (by rw [List.size_toArray, ← hl]; exact h1) (by simpa using ew) ⟨rfl, fin⟩) hs
theorem Inv.lst {pins : List (Addr × Obj)} {σ : St} {H : Hp} {s : Shared} {p : Addr} {xs : List V} (I : Inv X pins σ H s) (h : H p = some (.lst xs)) :
    ∃ (its : List Value) (n : Nat), Vals xs its ∧ s.heap.get? p = some { cls := .type "list", data := .seq its.toArray n } ∧ xs.length ≤ sizeLine := by
  obtain ⟨z, its, n, r, e⟩ := I.hok p _ h
  exact ⟨its, n, r, e, z⟩
theorem call_len_seq : CallR X (.builtin "len") (fun xs H Q => ∃ p ys, xs = [.ref p] ∧ (SqL X.K H p ys ∨ SqT X.K H p ys) ∧ Q (.int ys.length) H) := by
  intro pins s σ H xs us Q I r h
  obtain ⟨p, ys, rfl, hq, q⟩ := h
  obtain ⟨u, rfl, rx⟩ := vals1 r
  cases rx
  have hn := line63
  rcases hq with hq | hq
  · obtain ⟨its, r', pl, hz⟩ := I.list hq
    have hlen := r'.length
    exact Calls.call_len_list pl.isList (by simp only [List.size_toArray] <;> omega) ⟨.int ys.length, H, I.tok _, ⟨s.toks + 1, by rw [List.size_toArray, hlen]⟩, q⟩
  · obtain ⟨its, r', pl, hz⟩ := I.tuple hq
    have hlen := r'.length
    exact len_tuple pl (by simp only [List.size_toArray] <;> omega) ⟨.int ys.length, H, I.tok _, ⟨s.toks + 1, by rw [List.size_toArray, hlen]⟩, q⟩
theorem call_tuple_of : CallR X (.type "tuple") (fun xs H Q => ∃ p ys, xs = [.ref p] ∧ ((SqL X.K H p ys ∧ ∀ l, H l = none → Q (.ref l) (upd H l (.tup ys))) ∨ (SqT X.K H p ys ∧ Q (.ref p) H))) := by
  intro pins s σ H xs us Q I r h
  obtain ⟨p, ys, rfl, h⟩ := h
  obtain ⟨u, rfl, rx⟩ := vals1 r
  cases rx
  rcases h with ⟨hq, q⟩ | ⟨hq, q⟩
  · obtain ⟨its, r', pl, hz⟩ := I.list hq
    have hlen := r'.length
    refine call_tuple_list pl.isList (fun h' kp => ?_) (by simp only [List.size_toArray] <;> omega)
    have I1 : Inv X pins σ H { s with heap := h' } := I.kept (t' := s.toks) kp
    have I2 : Inv X pins σ (upd H h'.objs.size (.tup ys)) { s with heap := h'.push { cls := .type "tuple", data := .seq its.toArray } } :=
      I1.laid (t' := s.toks) (fun b o e => Heap.get?_push_of_some _ e) (Nat.le_refl _) (show ObjOk X.prog X.w _ _ _ (.tup ys) from ⟨hz, its, r', IsTup.new _ _⟩)
    exact ⟨.ref h'.objs.size, _, I2, rfl, q _ (I1.hok.fresh (Nat.le_refl _))⟩
  · obtain ⟨its, r', pl, hz⟩ := I.tuple hq
    exact call_tuple_same pl ⟨.ref p, H, I, rfl, q⟩
def tyV (K : PySem.W.Frag) (T : String) (x : V) (H : Hp) : Prop := match x with
  | .str _ => T = "str"
  | .int _ => T = "int"
  | .ref p => (T = "list" ∧ ∃ xs, SqL K H p xs) ∨ (T = "tuple" ∧ ∃ o, K.lookup p = some o ∧ o.cls = .type "tuple" ∧ o.dict = none) ∨
      (T = "dict" ∧ ((∃ kvs, H p = some (.dK kvs)) ∨ ∃ kvs, H p = some (.dT kvs))) ∨ (T = "set" ∧ ∃ S n, H p = some (.set S n))
  | _ => False
theorem tyV_is {pins : List (Addr × Obj)} {σ : St} {H : Hp} {s : Shared} {T : String} {x : V} {v : Value} (I : Inv X pins σ H s) (r : RelV x v) (ty : tyV X.K T x H) :
    s.TypeIs v T ∧ ∀ a, v = .ref a → ∃ ob, s.heap.get? a = some ob ∧ ob.dict = none := by
  cases x with
  | str z =>
    obtain ⟨t, rfl⟩ := r
    cases (show T = "str" from ty)
    exact ⟨typeIs_str s z t, fun _ e => nomatch e⟩
  | int i =>
    obtain ⟨t, rfl⟩ := r
    cases (show T = "int" from ty)
    exact ⟨typeIs_int s i t, fun _ e => nomatch e⟩
  | ref p =>
    cases r
    rcases ty with ⟨rfl, xs, hq⟩ | ⟨rfl, o, hk, hc, hd⟩ | ⟨rfl, hk⟩ | ⟨rfl, S, n, hk⟩
    · obtain ⟨its, _, pl, _⟩ := I.list hq
      refine ⟨pl.isList.typeIs, fun a e => ?_⟩
      cases e
      obtain ⟨o, n, e, c, hd, _⟩ := pl
      exact ⟨o, e, hd⟩
    · refine ⟨⟨o, I.kIn p o hk, hc⟩, fun a e => ?_⟩
      cases e
      exact ⟨o, I.kIn _ o hk, hd⟩
    · have z : ∃ o, s.heap.get? p = some o ∧ o.ExactDict := by
        rcases hk with ⟨kvs, hk⟩ | ⟨kvs, hk⟩
        · obtain ⟨_, _, _, _, o, _, _, e, ex, _⟩ := I.hok p _ hk
          exact ⟨o, e, ex⟩
        · obtain ⟨_, _, _, _, o, _, _, e, ex, _⟩ := I.hok p _ hk
          exact ⟨o, e, ex⟩
      obtain ⟨o, e, ex⟩ := z
      refine ⟨⟨o, e, ex.1⟩, fun a e2 => ?_⟩
      cases e2
      exact ⟨o, e, ex.2.1⟩
    · obtain ⟨o, _, _, _, e, ex, _⟩ := I.hok p _ hk
      refine ⟨⟨o, e, ex.1⟩, fun a e2 => ?_⟩
      cases e2
      exact ⟨o, e, ex.2.1⟩
  | _ => exact False.elim ty
def tBM (K : PySem.W.Frag) (T : String) (r : V → List V → Hp → VK → Prop) (to : TE) (t : TA) : TE := fun σ H Q => to σ H fun x H1 => tyV K T x H1 ∧ t σ H1 fun xs H2 => r x xs H2 Q
variable {o e : Expr} {es : List Expr} {to : TE} {t : TA} {name : Str} {apos cpos : Pos} {T id : String} {r : V → List V → Hp → VK → Prop}
theorem pe_bm (pa : PlainAttrs T) (slot : Slot T name id) (hty : typeOf (.builtin id) = pure (.type "method_descriptor")) (hm : MtR X id r) (ho : PE X o to) (ha : PA X (e :: es) t)
    (hbase : attributeBase o name X.env (eval o X.env) = eval o X.env := by rfl)
    (hfew : ((backTo cpos (starEach (e :: es) X.env)).all (fun x => !x.1) && (backToKw cpos (keywordEach [] X.env)).all (fun x => x.1.isSome)
      && decide ((e :: es).length + ([] : List Keyword).length + (if ([] : List Keyword).isEmpty then 0 else 1) < 30)) = true := by rfl)
    (hline : (apos.endLine == cpos.line) = true := by rfl) (hs : starEach (e :: es) X.env = (false, eval e X.env) :: starEach es X.env := by rfl) (hplain : (backTo cpos (starEach es X.env)).any (·.1) = false := by rfl) :
    PE X (.Call (.Attribute o name apos) (e :: es) [] cpos) (tBM X.K T r to t) := by
  intro pins s σ H Q I h
  refine wpAny_Call_method_late hbase hfew hline rfl (thn (ho pins s σ H _ I h) fun v s1 ⟨x, H1, I1, r1, ty, q1⟩ => ?_)
  obtain ⟨h1, h2⟩ := tyV_is I1 r1 ty
  refine ⟨T, id, pa, slot, hty, h1, h2, ?_⟩
  have hA := ha cpos pins s1 σ H1 _ I1 q1
  rw [hs] at hA ⊢
  refine Calls.callWith_builtin (by show (false || (backTo cpos (starEach es X.env)).any (·.1)) = false; rw [hplain] <;> rfl) (Calls.evalArgs_plain ?_)
  exact thn hA fun us s2 ⟨vs, H2, I2, r2, q2⟩ => hm pins s2 σ H2 x vs v us Q I2 r1 r2 q2
end
end L2
namespace L2
open PySem PySem.Spec PyProof.Rows
def MtM (X : Cx) (id : String) (r : V → List V → Hp → VK → Prop) : Prop :=
  ∀ (pins : List (Addr × Obj)) (s : Shared) (σ : St) (H : Hp) (x : V) (xs : List V) (v : Value) (us : List Value) (Q : VK), Inv X pins σ H s → RelV x v → Vals xs us → r x xs H Q →
    wpAny (model X.prog X.w) X.A (call (.builtin id) (v :: us)) (EP X pins σ Q) X.xe s
theorem Vals.one : ∀ {x : V} {us : List Value}, Vals [x] us → ∃ u, us = [u] ∧ RelV x u
  | _, _, .cons r .nil => ⟨_, rfl, r⟩
theorem Vals.two : ∀ {x y : V} {us : List Value}, Vals [x, y] us → ∃ u v, us = [u, v] ∧ RelV x u ∧ RelV y v
  | _, _, _, .cons r (.cons q .nil) => ⟨_, _, rfl, r, q⟩
theorem Vals.zero : ∀ {us : List Value}, Vals [] us → us = []
  | _, .nil => rfl
theorem Vals.reverse {xs : List V} {us : List Value} (h : Vals xs us) : Vals xs.reverse us.reverse := by
  induction h with
  | nil => exact .nil
  | cons r t ih => rw [List.reverse_cons, List.reverse_cons]; exact Vals.append ih (.cons r .nil)
section
variable {X : Cx} {pins : List (Addr × Obj)} {σ : St} {H : Hp} {s : Shared} {l b : Addr} {xs ys zs : List V}
theorem Inv.lset {its its' : List Value} {n : Nat} {f : Array Value → Array Value} {t' : Nat} (I : Inv X pins σ H s) (hH : H l = some (.lst xs))
    (e : s.heap.get? l = some { cls := .type "list", data := .seq its.toArray n }) (hf : f its.toArray = its'.toArray) (hv : Vals ys its') (hz : ys.length ≤ sizeLine) :
    Inv X pins σ (upd H l (.lst ys)) { s with heap := s.heap.update l (Obj.mapSeq f), toks := t' } := by
  have q := PySem.IsL.update e f
  rw [hf] at q
  refine I.write (x := l) (e := l) (by rw [hH]; exact trivial) (.inl rfl) (fun b' u hb hu => (Heap.get?_update_other s.heap (Obj.mapSeq f) (Ne.symm hb)).trans hu) ⟨_, q⟩ ?_
  exact ⟨hz, its', _, hv, q⟩
theorem Inv.lnew {its : List Value} {t' : Nat} (I : Inv X pins σ H s) (hv : Vals ys its) (hz : ys.length ≤ sizeLine) :
    Inv X pins σ (upd H s.heap.objs.size (.lst ys)) { s with heap := s.heap.push { cls := .type "list", data := .seq its.toArray }, toks := t' } :=
  I.laid (fun _ _ q => Heap.get?_push_of_some _ q) (Nat.le_refl _) ⟨hz, its, 0, hv, Heap.get?_push_size _ rfl⟩
theorem Inv.fresh (I : Inv X pins σ H s) : H s.heap.objs.size = none := I.hok.fresh (Nat.le_refl _)
theorem Inv.lstM (I : Inv X pins σ H s) (hH : H l = some (.lst xs)) : xs.length ≤ sizeLine ∧ ∃ (its : List Value) (n : Nat), Vals xs its ∧ xs.length = its.length ∧ s.heap.get? l = some { cls := .type "list", data := .seq its.toArray n } := by
  obtain ⟨z, its, n, r, e⟩ := I.hok l _ hH
  exact ⟨z, its, n, r, r.length, e⟩
theorem notLongL {n : Nat} (h : n ≤ sizeLine) : Builtin.List.listTooLong n = false := by
  unfold Builtin.List.listTooLong
  exact decide_eq_false (by omega)
end
section
variable {X : Cx}
def rAppend : V → List V → Hp → VK → Prop := fun x vs H Q => ∃ l xs y, x = .ref l ∧ vs = [y] ∧ H l = some (.lst xs) ∧ xs.length < sizeLine ∧ Q .non (upd H l (.lst (xs ++ [y])))
theorem mt_append : MtM X "list.append" rAppend := by
  intro pins s σ H x vs v us Q I rx rv h
  obtain ⟨l, xs, y, rfl, rfl, hH, hz, q⟩ := h
  cases rx
  obtain ⟨u, rfl, ru⟩ := rv.one
  obtain ⟨z, its, n, r, hl, e⟩ := I.lstM hH
  refine call_meets F.slot_list_append ⟨_, e, rfl⟩ F.entry_list_append (F.args_list_append_2 _ _) (PySem.list_append l its.toArray n u (by rw [List.size_toArray]; omega)) ⟨e, ?_⟩
  refine ⟨.non, _, I.lset (its' := its ++ [u]) hH e (by simp) (r.append (.cons ru .nil)) ?_, rfl, q⟩
  rw [List.length_append, List.length_singleton]
  omega
end
section
variable {prog : Program} {w : World} {A : Around} {E : Value → Shared → Prop} {s : Shared}
end
section
variable {X : Cx}
end
end L2
namespace L2
open PySem PySem.Spec PyProof.Rows
theorem Vals.ints : ∀ {ns : List Int} {us : List Value}, Vals (ns.map V.int) us → IntsAre us ns
  | [], us, h => by
    rw [List.map_nil] at h
    cases h
    exact IntsAre.nil
  | n :: ns, us, h => by
    rw [List.map_cons] at h
    cases h with
    | cons r t =>
      obtain ⟨k, rfl⟩ := r
      exact IntsAre.cons n k (Vals.ints t)
theorem Vals.ref1 {a : Addr} {us : List Value} (r : Vals [V.ref a] us) : us = [Value.ref a] := by
  cases r with
  | cons r t =>
    cases t
    cases r
    rfl
theorem Vals.int2 {i j : Int} {us : List Value} (r : Vals [V.int i, V.int j] us) : ∃ t u, us = [Value.int i t, Value.int j u] := by
  cases r with
  | cons r t =>
    cases t with
    | cons r2 t2 =>
      cases t2
      obtain ⟨t, rfl⟩ := r
      obtain ⟨u, rfl⟩ := r2
      exact ⟨t, u, rfl⟩
section
variable {prog : Program} {w : World} {A : Around} {E : Value → Shared → Prop} {s : Shared} {l : Addr} {its : List Value} {ns : List Int} {Q : Value → Shared → Prop}
end
section
variable {X : Cx}
end
section
variable {X : Cx}
end
section
variable {X : Cx}
end
section
variable {X : Cx}
end
mutual
inductive Dp (K : PySem.W.Frag) (H : Hp) : V → PyData → Prop
  | non : Dp K H .non .none
  | bl (b : Bool) : Dp K H (.bl b) (.bool b)
  | int (i : Int) : Dp K H (.int i) (.int i)
  | str (x : Str) : Dp K H (.str x) (.str x)
  | lst {a : Addr} {xs : List V} {ds : List PyData} : SqL K H a xs → DpAll K H xs ds → Dp K H (.ref a) (.list ds)
  | tup {a : Addr} {xs : List V} {ds : List PyData} : SqT K H a xs → DpAll K H xs ds → Dp K H (.ref a) (.tuple ds)
inductive DpAll (K : PySem.W.Frag) (H : Hp) : List V → List PyData → Prop
  | nil : DpAll K H [] []
  | cons {v : V} {vs : List V} {d : PyData} {ds : List PyData} : Dp K H v d → DpAll K H vs ds → DpAll K H (v :: vs) (d :: ds)
end
section
variable {X : Cx} {pins : List (Addr × Obj)} {σ : St} {H : Hp} {s : Shared}
mutual
theorem Dp.reads (I : Inv X pins σ H s) : ∀ (d : PyData) (v : V) (u : Value), Dp X.K H v d → RelV v u → ∃ as, Reads s.heap u d as
  | .none, _, _, h, r => by
    cases h
    cases r
    exact ⟨_, Reads.none⟩
  | .bool b, _, _, h, r => by
    cases h
    cases r
    exact ⟨_, Reads.bool b⟩
  | .int i, _, _, h, r => by
    cases h
    obtain ⟨t, rfl⟩ := r
    exact ⟨_, Reads.int i t⟩
  | .str x, _, _, h, r => by
    cases h
    obtain ⟨t, rfl⟩ := r
    exact ⟨_, Reads.str x t⟩
  | .list ds, _, _, h, r => by
    cases h with
    | lst hs ha =>
      cases r
      obtain ⟨its, rv, ⟨o, n, ho, hc, _, hd⟩, _⟩ := I.list hs
      obtain ⟨as, hr⟩ := Dp.readsAll I ds _ its ha rv
      exact ⟨_, Reads.list ho hc hd hr⟩
  | .tuple ds, _, _, h, r => by
    cases h with
    | tup hs ha =>
      cases r
      obtain ⟨its, rv, ⟨o, ho, hc, n, hd⟩, _⟩ := I.tuple hs
      obtain ⟨as, hr⟩ := Dp.readsAll I ds _ its ha rv
      exact ⟨_, Reads.tuple ho hc hd hr⟩
  | .dict _, _, _, h, _ => by cases h
theorem Dp.readsAll (I : Inv X pins σ H s) : ∀ (ds : List PyData) (vs : List V) (us : List Value), DpAll X.K H vs ds → Vals vs us → ∃ as, ReadsAll s.heap us ds as
  | [], _, _, h, r => by
    cases h
    cases r
    exact ⟨_, ReadsAll.nil⟩
  | d :: ds, _, _, h, r => by
    cases h with
    | cons h1 h2 =>
      cases r with
      | cons r1 r2 =>
        obtain ⟨as, q1⟩ := Dp.reads I d _ _ h1 r1
        obtain ⟨bs, q2⟩ := Dp.readsAll I ds _ _ h2 r2
        exact ⟨_, ReadsAll.cons q1 q2⟩
end
end
section
variable {X : Cx}
def rEqD (K : PySem.W.Frag) : R2 := fun x y H Q => ∃ d e, Dp K H x d ∧ Dp K H y e ∧ SeqAt.shaped d = true ∧ SeqAt.shaped e = true ∧ Q (.bl (PyData.eqv d e)) H
def rNeD (K : PySem.W.Frag) : R2 := fun x y H Q => ∃ d e, Dp K H x d ∧ Dp K H y e ∧ SeqAt.shaped d = true ∧ SeqAt.shaped e = true ∧ Q (.bl (!PyData.eqv d e)) H
theorem op_eqD (hu : X.A.units + 64 < cLine) : OpR X (compareOp .Eq) (rEqD X.K) := by
  intro pins s σ H x y v u Q I rx ry h
  obtain ⟨d, e, hd, he, sd, se, q⟩ := h
  obtain ⟨as, r1⟩ := Dp.reads I d x v hd rx
  obtain ⟨bs, r2⟩ := Dp.reads I e y u he ry
  exact SeqAt.compareEq_shaped r1 r2 sd se hu ⟨.bl _, H, I, rfl, q⟩
theorem op_neD (hu : X.A.units + 64 < cLine) : OpR X (compareOp .NotEq) (rNeD X.K) := by
  intro pins s σ H x y v u Q I rx ry h
  obtain ⟨d, e, hd, he, sd, se, q⟩ := h
  obtain ⟨as, r1⟩ := Dp.reads I d x v hd rx
  obtain ⟨bs, r2⟩ := Dp.reads I e y u he ry
  exact SeqAt.compareNe_shaped r1 r2 sd se hu ⟨.bl _, H, I, rfl, q⟩
end
end L2
namespace L2
open PySem PySem.Spec PyProof.Rows
abbrev CellAt (h : Heap) (c : Addr) (v : Option Value) : Prop := h.IsCell c v
def relS (scope sc : Scope) : Scope :=
  { scope with names := scope.names.map fun (n, k) => if (k == .free && sc.kind == .function && sc.names.lookup n == some .cell) then (n, .cell) else (n, k) }
def cloFrom (cells : List (Str × Addr)) : List (Str × NameKind) → List (Str × Addr) → List (Str × Addr)
  | [], acc => acc
  | (n, k) :: r, acc => if k == .free then cloFrom cells r ((n, (cells.lookup n).getD 0) :: acc) else cloFrom cells r acc
theorem closure_loop (env : Env) (f : Str × NameKind → List (Str × Addr) → Sem (ForInStep (List (Str × Addr))))
    (hf : ∀ n k c, f (n, k) c = if k == .free then (do let a ← cellOf env n; pure (.yield ((n, a) :: c))) else pure (.yield c)) :
    ∀ (names : List (Str × NameKind)) (acc : List (Str × Addr)), (∀ y ∈ names, y.2 = .free → ∃ c, env.cells.lookup y.1 = some c) → forIn names acc f = pure (cloFrom env.cells names acc)
  | [], acc, _ => by rw [List.forIn_nil]; rfl
  | (n, k) :: r, acc, h => by
    rw [List.forIn_cons, hf]
    have ih := fun acc => closure_loop env f hf r acc fun y hy => h y (List.mem_cons_of_mem _ hy)
    unfold cloFrom
    by_cases hk : (k == NameKind.free) = true
    · rw [if_pos hk, if_pos hk]
      obtain ⟨c, hc⟩ := h (n, k) List.mem_cons_self (by simpa using hk)
      have e : cellOf env n = pure c := by unfold cellOf; rw [hc]
      rw [e]
      have e2 : (env.cells.lookup n).getD 0 = c := by rw [hc]; rfl
      rw [e2]
      exact ih _
    · rw [if_neg hk, if_neg hk]
      exact ih _
theorem closure_ok {scope : Scope} {env : Env} (h : ∀ y ∈ scope.names, y.2 = .free → ∃ c, env.cells.lookup y.1 = some c) : closureFor scope env = pure (cloFrom env.cells scope.names []) := by
  simp only [closureFor]
  rw [closure_loop env _ (fun n k c => rfl) scope.names [] h]
  rfl
theorem mem_lookup {α : Type} : ∀ {l : List (Str × α)} {n : Str} {c : α}, (n, c) ∈ l → ∃ c', l.lookup n = some c'
  | (k, v) :: r, n, c, h => by
    rw [List.lookup_cons]
    cases hb : n == k with
    | true => exact ⟨_, rfl⟩
    | false =>
      rcases List.mem_cons.mp h with e | h
      · cases e; simp at hb
      · exact mem_lookup h
theorem cloFrom_mem {cells : List (Str × Addr)} : ∀ {names : List (Str × NameKind)} {acc : List (Str × Addr)} {n : Str} {c : Addr}, (n, c) ∈ cloFrom cells names acc → (n, c) ∈ acc ∨ ((n, .free) ∈ names ∧ c = (cells.lookup n).getD 0)
  | [], _, _, _, h => .inl h
  | (m, k) :: r, acc, n, c, h => by
    unfold cloFrom at h
    split at h
    · rename_i hk
      have hk : k = .free := by simpa using hk
      rcases cloFrom_mem h with h | ⟨h1, h2⟩
      · rcases List.mem_cons.mp h with e | h
        · cases e; exact .inr ⟨hk ▸ List.mem_cons_self, rfl⟩
        · exact .inl h
      · exact .inr ⟨List.mem_cons_of_mem _ h1, h2⟩
    · rcases cloFrom_mem h with h | ⟨h1, h2⟩
      · exact .inl h
      · exact .inr ⟨List.mem_cons_of_mem _ h1, h2⟩
theorem cloFrom_acc {cells : List (Str × Addr)} : ∀ {names : List (Str × NameKind)} {acc : List (Str × Addr)} {p : Str × Addr}, p ∈ acc → p ∈ cloFrom cells names acc
  | [], _, _, h => h
  | (m, k) :: r, acc, p, h => by
    unfold cloFrom
    split
    · exact cloFrom_acc (List.mem_cons_of_mem _ h)
    · exact cloFrom_acc h
theorem cloFrom_has {cells : List (Str × Addr)} : ∀ {names : List (Str × NameKind)} {acc : List (Str × Addr)} {n : Str}, (n, .free) ∈ names → (n, (cells.lookup n).getD 0) ∈ cloFrom cells names acc
  | (m, k) :: r, acc, n, h => by
    unfold cloFrom
    rcases List.mem_cons.mp h with e | h
    · cases e
      exact cloFrom_acc List.mem_cons_self
    · split
      · exact cloFrom_has h
      · exact cloFrom_has h
theorem cells_mem : ∀ {names : List (Str × NameKind)} {h : Heap} {acc : List (Str × Addr)} {x : Str} {c : Addr}, (x, c) ∈ cellsFrom h.objs.size names acc →
    (x, c) ∈ acc ∨ ((x, .cell) ∈ names ∧ h.objs.size ≤ c ∧ CellAt (pushCells h names) c none)
  | [], _, _, _, _, h => .inl h
  | (n, k) :: r, h, acc, x, c, hm => by
    unfold cellsFrom at hm
    unfold pushCells
    split at hm
    · rename_i hk
      rw [if_pos hk]
      have hk : k = .cell := by simpa using hk
      rw [← Heap.size_push h { cls := .type "cell", data := .cell none }] at hm
      rcases cells_mem hm with hm | ⟨h1, h2, h3⟩
      · rcases List.mem_cons.mp hm with e | hm
        · cases e
          exact .inr ⟨hk ▸ List.mem_cons_self, Nat.le_refl _, _, pushCells_keeps r _ _ _ (Heap.get?_push_size _ rfl), rfl⟩
        · exact .inl hm
      · rw [Heap.size_push] at h2
        exact .inr ⟨List.mem_cons_of_mem _ h1, Nat.le_of_succ_le h2, h3⟩
    · rename_i hk
      rw [if_neg hk]
      rcases cells_mem hm with hm | ⟨h1, h2, h3⟩
      · exact .inl hm
      · exact .inr ⟨List.mem_cons_of_mem _ h1, h2, h3⟩
theorem cells_acc : ∀ {names : List (Str × NameKind)} {n : Nat} {acc : List (Str × Addr)} {p : Str × Addr}, p ∈ acc → p ∈ cellsFrom n names acc
  | [], _, _, _, h => h
  | (m, k) :: r, n, acc, p, h => by
    unfold cellsFrom
    split
    · exact cells_acc (List.mem_cons_of_mem _ h)
    · exact cells_acc h
theorem cells_has : ∀ {names : List (Str × NameKind)} {n : Nat} {acc : List (Str × Addr)} {x : Str}, (x, .cell) ∈ names → ∃ c, (x, c) ∈ cellsFrom n names acc
  | (m, k) :: r, n, acc, x, h => by
    unfold cellsFrom
    rcases List.mem_cons.mp h with e | h
    · cases e
      exact ⟨n, cells_acc List.mem_cons_self⟩
    · split
      · exact cells_has h
      · exact cells_has h
theorem cells_inj : ∀ {names : List (Str × NameKind)} {h : Heap} {acc : List (Str × Addr)} {x y : Str} {c : Addr}, (∀ p ∈ acc, p.2 < h.objs.size) → (∀ x y c, (x, c) ∈ acc → (y, c) ∈ acc → x = y) →
    (x, c) ∈ cellsFrom h.objs.size names acc → (y, c) ∈ cellsFrom h.objs.size names acc → x = y
  | [], _, _, _, _, _, _, hi, h1, h2 => hi _ _ _ h1 h2
  | (n, k) :: r, h, acc, x, y, c, hl, hi, h1, h2 => by
    unfold cellsFrom at h1 h2
    split at h1
    · rename_i hk
      rw [if_pos hk] at h2
      rw [← Heap.size_push h { cls := .type "cell", data := .cell none }] at h1 h2
      refine cells_inj (h := h.push _) (fun p hp => ?_) (fun x y c a b => ?_) h1 h2
      · rw [Heap.size_push]
        rcases List.mem_cons.mp hp with rfl | hp
        · exact Nat.lt_succ_self _
        · exact Nat.lt_succ_of_lt (hl p hp)
      · rcases List.mem_cons.mp a with e | a <;> rcases List.mem_cons.mp b with e' | b
        · cases e; cases e'; rfl
        · cases e; exact absurd (hl _ b) (Nat.lt_irrefl _)
        · cases e'; exact absurd (hl _ a) (Nat.lt_irrefl _)
        · exact hi _ _ _ a b
    · rename_i hk
      rw [if_neg hk] at h2
      exact cells_inj hl hi h1 h2
theorem newEnv_comp {M : Model} {A : Around} {E : Value → Shared → Prop} {s : Shared} {scope : Scope} {globals : Addr} {closure : List (Str × Addr)} {qual : Str} {func : Option Addr} {code : Value} {around : Env} {builtins : Addr} {Q : Env → Shared → Prop}
    (h : Q (newEnv scope s.heap.objs.size globals (cellsFrom (s.heap.objs.size + 1) scope.names closure) qual func code (some around) builtins)
      { s with heap := pushCells (s.heap.push { cls := .type "dict", data := .dict #[] }) scope.names }) :
    wpAny M A (newFunctionEnv scope globals closure [] qual func code (some around) builtins) Q E s := by
  simp only [newFunctionEnv, Option.isSome_some, if_true]
  refine wpAny_bind (wpAny_alloc ?_)
  refine wpAny_bind (wpAny_layCells _ (fun n k c => rfl) scope.names closure _ _ ?_)
  rw [show ({ s with heap := s.heap.push { cls := .type "dict", data := .dict #[] } } : Shared).heap.objs.size = s.heap.objs.size + 1 from Heap.size_push ..]
  rw [List.forIn_nil]
  exact wpAny_bind (wpAny_pure (wpAny_pure h))
theorem lookup_relS {sc : Scope} : ∀ {names : List (Str × NameKind)} {x : Str} {k : NameKind},
    (names.map fun (n, k) => if (k == NameKind.free && sc.kind == .function && sc.names.lookup n == some .cell) then (n, NameKind.cell) else (n, k)).lookup x = some k →
    ∃ k', names.lookup x = some k' ∧ (k = k' ∨ (k' = .free ∧ k = .cell))
  | [], _, _, h => by simp at h
  | (n, k₀) :: r, x, k, h => by
    have ih := @lookup_relS sc r x k
    have h' : List.lookup x ((if (k₀ == NameKind.free && sc.kind == .function && sc.names.lookup n == some .cell) = true then (n, NameKind.cell) else (n, k₀)) :: (r.map _)) = some k := h
    cases hx : x == n with
    | true =>
      simp only [List.lookup_cons, hx]
      by_cases hc : (k₀ == NameKind.free && sc.kind == .function && sc.names.lookup n == some .cell) = true
      · rw [if_pos hc] at h'
        simp only [List.lookup_cons, hx] at h'
        cases h'
        simp only [Bool.and_eq_true, beq_iff_eq] at hc
        exact ⟨k₀, rfl, .inr ⟨hc.1.1, rfl⟩⟩
      · rw [if_neg hc] at h'
        simp only [List.lookup_cons, hx] at h'
        cases h'
        exact ⟨_, rfl, .inl rfl⟩
    | false =>
      simp only [List.lookup_cons, hx]
      by_cases hc : (k₀ == NameKind.free && sc.kind == .function && sc.names.lookup n == some .cell) = true
      · rw [if_pos hc] at h'
        simp only [List.lookup_cons, hx] at h'
        exact ih h'
      · rw [if_neg hc] at h'
        simp only [List.lookup_cons, hx] at h'
        exact ih h'
structure BlkOk (N : List Str) (sc scope : Scope) (own : List (Str × Nat)) : Prop where
  kind : scope.kind = .function
  uniq : ∀ y ∈ scope.names, scope.names.lookup y.1 = some y.2
  ix : ∀ p ∈ own, N[p.2]? = some p.1
  free : ∀ y ∈ scope.names, y.2 = .free → sc.names.lookup y.1 = some .cell ∨ sc.names.lookup y.1 = some .free
  own : ∀ y ∈ scope.names, y.2 = .local ∨ y.2 = .cell → y.1 ∈ own.map (·.1) ∨ y.1 ∉ N
def wipe (σ : St) : List Nat → St
  | [] => σ
  | v :: vs => (wipe σ vs).set v none
theorem wipe_length (σ : St) : ∀ vs : List Nat, (wipe σ vs).length = σ.length
  | [] => rfl
  | v :: vs => by unfold wipe; rw [List.length_set, wipe_length σ vs]
theorem wipe_some {σ : St} {i : Nat} {x : V} : ∀ {vs : List Nat}, (wipe σ vs)[i]? = some (some x) → σ[i]? = some (some x) ∧ i ∉ vs
  | [], h => ⟨h, by simp⟩
  | v :: vs, h => by
    unfold wipe at h
    by_cases hi : v = i
    · subst hi
      by_cases hv : v < (wipe σ vs).length
      · rw [List.getElem?_set_self hv] at h; cases h
      · rw [List.getElem?_eq_none (by simpa using hv)] at h; cases h
    · rw [List.getElem?_set_ne hi] at h
      obtain ⟨h1, h2⟩ := wipe_some h
      exact ⟨h1, by simp only [List.mem_cons, not_or]; exact ⟨fun e => hi e.symm, h2⟩⟩
abbrev Cx.blk (X : Cx) (s : Shared) (H : Hp) (scope : Scope) (cenv : Env) (fp : List Addr) : Cx := { X with s_0 := s, H_0 := H, env := cenv, outer := X.stack, ex := fp, fn := fun x => scope.names.lookup x == some .cell, pn := [], xe := fun _ _ => False }
section
variable {X : Cx} {pins : List (Addr × Obj)} {σ : St} {H : Hp} {s : Shared}
theorem block_start {scope : Scope} {own : List (Str × Nat)} {fp : List Addr} (I : Inv X pins σ H s) (ok : BlkOk X.N X.env.scope scope own) (hN : X.N.Nodup) (hfp : ∀ b ∈ fp, FpOk X pins H b ∧ b < s.heap.objs.size) :
    Inv (X.blk s H scope (compEnvC scope (cellsFrom (s.heap.objs.size + 1) scope.names (cloFrom X.env.cells scope.names [])) s.heap.objs.size X.env) fp) [] (wipe σ (own.map (·.2))) H { s with heap := pushCells (s.heap.push { cls := .type "dict", data := .dict #[] }) scope.names } := by
  have hfree : ∀ y ∈ scope.names, y.2 = .free → ∃ c, X.env.cells.lookup y.1 = some c := fun y hy e => by
    rcases ok.free y hy e with k | k
    · exact I.ok.has _ (.inl k)
    · exact I.ok.has _ (.inr k)
  generalize hcenv : compEnvC scope (cellsFrom (s.heap.objs.size + 1) scope.names (cloFrom X.env.cells scope.names [])) s.heap.objs.size X.env = cenv
  have kp : ∀ b o, s.heap.get? b = some o → (pushCells (s.heap.push { cls := .type "dict", data := .dict #[] }) scope.names).get? b = some o := fun b o e => pushCells_keeps _ _ _ _ (Heap.get?_push_of_some _ e)
  have hL : cenv.locals = s.heap.objs.size := by rw [← hcenv]; rfl
  have hcl : cenv.cells = cellsFrom (s.heap.objs.size + 1) scope.names (cloFrom X.env.cells scope.names []) := by rw [← hcenv]; rfl
  have hsc : cenv.scope = relS scope X.env.scope := by rw [← hcenv]; rfl
  rw [← Heap.size_push s.heap { cls := .type "dict", data := .dict #[] }] at hcl
  have cm : ∀ {y c}, (y, c) ∈ cloFrom X.env.cells scope.names [] → X.env.cells.lookup y = some c ∧ c < s.heap.objs.size := fun {y c} hm => by
    rcases cloFrom_mem hm with hm | ⟨h1, rfl⟩
    · cases hm
    · obtain ⟨c, hc⟩ := hfree _ h1 rfl
      rw [hc]
      obtain ⟨w, z⟩ := I.cell _ _ hc
      exact ⟨rfl, z.lt⟩
  have mem : ∀ {y c}, cenv.cells.lookup y = some c → (X.env.cells.lookup y = some c ∧ c < s.heap.objs.size) ∨ (s.heap.objs.size + 1 ≤ c ∧ CellAt (pushCells (s.heap.push { cls := .type "dict", data := .dict #[] }) scope.names) c none) := fun {y c} e => by
    rw [hcl] at e
    rcases cells_mem (PySem.mem_of_lookup e) with hm | ⟨_, h2, h3⟩
    · exact .inl (cm hm)
    · rw [Heap.size_push] at h2; exact .inr ⟨h2, h3⟩
  have look : ∀ {y}, scope.names.lookup y = some .free → ∃ c, cenv.cells.lookup y = some c ∧ X.env.cells.lookup y = some c := fun {y} hl => by
    have hy : (y, NameKind.free) ∈ scope.names := PySem.mem_of_lookup hl
    obtain ⟨c', e'⟩ := mem_lookup (cells_acc (names := scope.names) (n := (s.heap.push { cls := .type "dict", data := .dict #[] }).objs.size) (cloFrom_has (cells := X.env.cells) (acc := []) hy))
    rw [← hcl] at e'
    refine ⟨c', e', ?_⟩
    rw [hcl] at e'
    rcases cells_mem (PySem.mem_of_lookup e') with hm | ⟨h1, _, _⟩
    · exact (cm hm).1
    · have := ok.uniq _ h1
      rw [hl] at this; cases this
  have okB : (X.blk s H scope cenv fp).Ok := by
    refine ⟨I.ok.mod, by show cenv.scope.kind = _; rw [hsc]; exact ok.kind, by show cenv.globals = _; rw [← hcenv]; exact I.ok.glob, by show cenv.builtins = _; rw [← hcenv]; exact I.ok.blt, by show s.heap.objs.size ≤ cenv.locals; rw [hL]; exact Nat.le_refl _,
      fun y z c e1 e2 => ?_, fun y hy => ?_, fun y c z e => ?_, I.ok.hd, I.ok.frames, .inl rfl, fun b hb => ⟨?_, fun y c e z => ?_⟩, I.bs, Nat.le_trans I.ok.bsz I.sz, fun b o e hb => ?_, fun b hb z => ?_, I.stack, I.stkFree⟩
    · have e1 : cenv.cells.lookup y = some c := e1
      have e2 : cenv.cells.lookup z = some c := e2
      rw [hcl] at e1 e2
      refine cells_inj (fun p hp => ?_) (fun y z c a b => I.ok.inj y z c (cm a).1 (cm b).1) (PySem.mem_of_lookup e1) (PySem.mem_of_lookup e2)
      rw [Heap.size_push]
      exact Nat.lt_succ_of_lt (cm (y := p.1) (c := p.2) hp).2
    · show ∃ c, cenv.cells.lookup y = some c
      have key : ∀ k, cenv.kindOf y = some k → (k = .cell ∨ k = .free) → ∃ c, cenv.cells.lookup y = some c := fun k hk hk' => by
        unfold Env.kindOf at hk
        rw [hsc] at hk
        obtain ⟨k', e, r⟩ := lookup_relS hk
        have : k' = .cell ∨ k' = .free := by
          rcases r with rfl | ⟨rfl, _⟩
          · exact hk'
          · exact .inr rfl
        rcases this with rfl | rfl
        · obtain ⟨c, hm⟩ := cells_has (n := (s.heap.push { cls := .type "dict", data := .dict #[] }).objs.size) (acc := cloFrom X.env.cells scope.names []) (PySem.mem_of_lookup e)
          obtain ⟨c', e'⟩ := mem_lookup hm
          exact ⟨c', by rw [hcl]; exact e'⟩
        · obtain ⟨c, h1, _⟩ := look e
          exact ⟨c, h1⟩
      rcases hy with hy | hy
      · exact key _ hy (.inl rfl)
      · exact key _ hy (.inr rfl)
    · have z : (scope.names.lookup y == some NameKind.cell) = true := z
      have z : scope.names.lookup y = some .cell := by simpa using z
      have e : cenv.cells.lookup y = some c := e
      rw [hcl] at e
      rcases cells_mem (PySem.mem_of_lookup e) with hm | ⟨_, h2, _⟩
      · rcases cloFrom_mem hm with hm | ⟨h1, _⟩
        · cases hm
        · have q := ok.uniq _ h1
          rw [z] at q; cases q
      · rw [Heap.size_push] at h2
        exact Nat.le_of_succ_le h2
    · show b ≠ cenv.locals
      rw [hL]; exact Nat.ne_of_lt (hfp b hb).2
    · have e : cenv.cells.lookup y = some c := e
      rcases mem e with ⟨h1, _⟩ | ⟨h1, _⟩
      · exact (hfp b hb).1.2.2.2.2.1 y c h1 z
      · have h2 : s.heap.objs.size + 1 ≤ b := by rw [← z]; exact h1
        exact absurd (Nat.lt_of_lt_of_le (hfp b hb).2 (Nat.le_of_succ_le h2)) (Nat.lt_irrefl _)
    · rcases (hfp b hb).1.2.2.2.1 with z | z
      · exact I.ok.noex b o e z
      · exact absurd (Nat.lt_of_lt_of_le (Heap.lt_size e) (Nat.le_trans I.ok.bsz z)) (Nat.lt_irrefl _)
    · rcases List.mem_cons.mp (I.stkSub b z) with z | z
      · exact (hfp b hb).1.2.1 z
      · exact (hfp b hb).1.2.2.1 z
  refine ⟨okB, rfl, I.bare, Un.kept kp, ⟨fun _ => none, ?_, fun i y av e1 e2 e3 => ?_⟩, fun y c e => ?_, ?_, fun y c e => ?_, fun p hp => ?_, I.hok.kept kp, by rw [wipe_length]; exact I.len⟩
  · show Heap.Ns _ cenv.locals _
    rw [hL]
    exact Heap.Ns.keeps (Heap.Ns.new ..) fun b o e => pushCells_keeps _ _ _ _ e
  · obtain ⟨e2, hne⟩ := wipe_some e2
    have hfr : scope.names.lookup y = some .free ∧ (cenv.kindOf y = some .cell ∨ cenv.kindOf y = some .free) := by
      have key : ∀ k, cenv.scope.names.lookup y = some k → k = .local ∨ k = .cell ∨ k = .free → scope.names.lookup y = some .free ∧ (cenv.kindOf y = some .cell ∨ cenv.kindOf y = some .free) := fun k hk hk' => by
        have hk0 := hk
        rw [hsc] at hk
        obtain ⟨k', e, r⟩ := lookup_relS hk
        have no : ¬ (k' = .local ∨ k' = .cell) := fun hh => by
          rcases ok.own _ (PySem.mem_of_lookup e) hh with e' | e'
          · obtain ⟨p, hp, hpy⟩ := List.mem_map.mp e'
            have e3 := ok.ix p hp
            have : p.1 = y := hpy
            rw [this] at e3
            exact hne (List.mem_map.mpr ⟨p, hp, nodup_ix hN e3 e1⟩)
          · exact e' (List.mem_of_getElem? e1)
        rcases r with rfl | ⟨rfl, rfl⟩
        · rcases hk' with rfl | rfl | rfl
          · exact absurd (.inl rfl) no
          · exact absurd (.inr rfl) no
          · exact ⟨e, .inr hk0⟩
        · exact ⟨e, .inl hk0⟩
      have e3 : Vis cenv.scope y := e3
      rcases e3 with e3 | e3 | e3
      · exact key _ e3 (.inl rfl)
      · exact key _ e3 (.inr (.inl rfl))
      · exact key _ e3 (.inr (.inr rfl))
    obtain ⟨m, hn, hl⟩ := I.loc
    have hvis : Vis X.env.scope y := (ok.free _ (PySem.mem_of_lookup hfr.1) rfl).elim (fun k => .inr (.inl k)) (fun k => .inr (.inr k))
    obtain ⟨w, r, q⟩ := hl i y av e1 e2 hvis
    refine ⟨w, r, .inr ⟨hfr.2, ?_⟩⟩
    obtain ⟨c, h1, h2⟩ := look hfr.1
    rcases q with ⟨k, _⟩ | ⟨_, c', e', z⟩
    · have k : X.env.scope.names.lookup y = some .local := k
      rcases ok.free _ (PySem.mem_of_lookup hfr.1) rfl with k' | k' <;> rw [show X.env.scope.names.lookup y = _ from k'] at k <;> cases k
    · rw [h2] at e'; cases e'
      exact ⟨c, h1, z.keeps kp⟩
  · have e : cenv.cells.lookup y = some c := e
    rcases mem e with ⟨h1, _⟩ | ⟨_, z⟩
    · obtain ⟨w, z⟩ := I.cell y c h1
      exact ⟨w, z.keeps kp⟩
    · exact ⟨_, z⟩
  · show H cenv.locals = none
    rw [hL]; exact I.hok.fresh (Nat.le_refl _)
  · have e : cenv.cells.lookup y = some c := e
    rcases mem e with ⟨h1, _⟩ | ⟨h1, _⟩
    · exact I.freeC y c h1
    · exact I.hok.fresh (Nat.le_of_succ_le h1)
  · exact absurd (show p ∈ ([] : List (Addr × Obj)) ++ [] from hp) (by simp)
theorem app_ok {E : Value → Shared → Prop} {D : Addr} {xs : List V} {y : V} {v : Value} {Q : Value → Shared → Prop} (I : Inv X pins σ H s) (hD : H D = some (.lst xs)) (hz : xs.length < sizeLine) (r : RelV y v)
    (h : ∀ s', Inv X pins σ (upd H D (.lst (xs ++ [y]))) s' → Q .none s') : wpAny (model X.prog X.w) X.A (call (.builtin "list.append") [.ref D, v]) Q E s := by
  obtain ⟨hz', its, n, ri, e⟩ := I.hok D _ hD
  have hl := ri.length
  refine append_at (hsz := by rw [List.size_toArray]; omega) e fun h' sb ho' => ?_
  refine h { s with heap := h' } (I.write (t' := s.toks) (by rw [hD]; trivial) (.inl rfl) (fun b u hb q => (sb.2 b hb).trans q) ⟨_, ho'⟩ ⟨by rw [List.length_append]; exact hz, its ++ [v], n + 1, ri.append (.cons r .nil), ?_⟩)
  rw [ho']
  simp
def PTs (X : Cx) (ifs : List Expr) (t : TT) : Prop :=
  ∀ (pins : List (Addr × Obj)) (s : Shared) (σ : St) (H : Hp) (Q : Bool → Hp → Prop), Inv X pins σ H s → t σ H Q →
    wpAny (model X.prog X.w) X.A (forIn ifs true fun c r => if r = true then do let ok ← isTrue c X.env (eval c X.env); pure (ForInStep.yield ok) else pure (ForInStep.yield r)) (TP X pins σ Q) X.xe s
def tYes : TT := fun _ H Q => Q true H
theorem pts_nil : PTs X [] tYes := fun _ _ _ H _ I h => wpAny_tests_nil ⟨H, I, h⟩
theorem pts_one {c : Expr} {t : TT} (h : PT X c t) : PTs X [c] t := fun pins s σ H Q I hw => wpAny_tests_one (h pins s σ H Q I hw)
end
theorem thnF {α : Type} {t : Sem α} {Q Q' : α → Shared → Prop} {M : Model} {A : Around} {E : Value → Shared → Prop} {s : Shared} (h : wpAny M A t Q (fun _ _ => False) s) (hQ : ∀ a s, Q a s → Q' a s) : wpAny M A t Q' E s := wpAny_mono h hQ fun _ _ z => False.elim z
theorem compLoop_any {prog : Program} {w : World} {A : Around} {R : Result → Shared → Prop} {s : Shared} {elt target iter : Expr} {ifs : List Expr} {scope : Scope} {pos : Pos} {it acc : Value} {env : Env} (I : Nat → Shared → Prop)
    (turn : ∀ n s, I n s → wpAny (model prog w) A (pyNext it) (fun r s₁ => match r with
      | none => R (.ok .next) s₁
      | some v => wpAny (model prog w) A (letOwnedTupleGo target it v) (fun _ s₁' => wpAny (model prog w) A (assign target env v) (fun _ s₂ =>
          wpAny (model prog w) A (forIn ifs true fun c r => if r = true then do let ok ← isTrue c env (eval c env); pure (ForInStep.yield ok) else pure (ForInStep.yield r)) (fun ok s₃ =>
            if ok = true then wpAny (model prog w) A (eval elt env) (fun x s₄ =>
              wpAny (model prog w) A (call (.builtin "list.append") [acc, x]) (fun _ s₅ => ∃ m, m < n ∧ I m s₅) (notedBy (model prog w) A env fun e s' => R (.error e) s') s₄) (notedBy (model prog w) A env fun e s' => R (.error e) s') s₃
            else ∃ m, m < n ∧ I m s₃) (notedBy (model prog w) A env fun e s' => R (.error e) s') s₂) (notedBy (model prog w) A env fun e s' => R (.error e) s') s₁') (notedBy (model prog w) A env fun e s' => R (.error e) s') s₁) (notedBy (model prog w) A env fun e s' => R (.error e) s') s)
    (n : Nat) (h : I n s) :
    codeAny (model prog w) A (.compLoop (.ListComp elt [⟨target, iter, ifs, 0⟩] scope pos) 0 it acc env) R s := by
  refine codeAny_loop rfl I (fun n s hI => ?_) n h
  show wpAny _ A ((compTurn (.ListComp elt [⟨target, iter, ifs, 0⟩] scope pos) 0 it acc env).onRaise (fun x => do noteFrame x env; theTreesLotGoes x)) _ _ s
  refine wpAny_noted ?_
  rw [compTurn_list]
  refine wpAny_bind (wpAny_standAt (wpAny_bind (wpAny_mono (turn n s hI) (fun r s₁ h₁ => ?_) fun _ _ h' => h')))
  cases r with
  | none => exact wpAny_pure h₁
  | some v =>
    refine wpAny_bind (wpAny_mono h₁ (fun _ s₁' h₁' => ?_) fun _ _ h' => h')
    refine wpAny_bind (wpAny_mono h₁' (fun _ s₂ h₂ => wpAny_bind (wpAny_mono h₂ (fun ok s₃ h₃ => ?_) fun _ _ h' => h')) fun _ _ h' => h')
    cases ok with
    | false => exact wpAny_pure ⟨rfl, h₃⟩
    | true =>
      exact wpAny_bind (wpAny_bind (wpAny_mono h₃ (fun x s₄ h₄ => wpAny_bind (wpAny_mono h₄ (fun _ s₅ h₅ => wpAny_pure (wpAny_pure ⟨rfl, h₅⟩)) fun _ _ h' => h')) fun _ _ h' => h'))
section
variable {X : Cx}
def tLc (wi : TI) (g : TG) (tt : TT) (te : TE) (vs : List Nat) : TE := fun σ H Q => wi σ H fun J H1 => ∀ D, H1 D = none → ∃ W : Nat → Nat → Hp → Prop, (∃ m, W 0 m (upd H1 D (.lst []))) ∧ ∀ i m H, W i m H →
  (J.stop i H ∧ Q (.ref D) H) ∨ (J.go i H ∧ ∃ Nx : Hp → Prop, (∀ H', Nx H' → ∃ m', m' < m ∧ W (i + 1) m' H') ∧ ∀ x H', J.yld i H x H' → g x (wipe σ vs) H' fun σ2 H2 => wipe σ2 vs = wipe σ vs ∧ tt σ2 H2 fun b H3 =>
    if b = true then te σ2 H3 fun y H4 => ∃ acc, H4 D = some (.lst acc) ∧ acc.length < sizeLine ∧ Nx (upd H4 D (.lst (acc ++ [y]))) else Nx H3)
theorem lc_core {pins : List (Addr × Obj)} {s : Shared} {σ : St} {H : Hp} {Q : VK} {elt tg iter : Expr} {ifs : List Expr} {scope : Scope} {own : List (Str × Nat)} {pos pos' : Pos} {wi : TI} {g : TG} {tt : TT} {te : TE} {use : Option (Value → Sem Unit)} {Qf : Value → Shared → Prop}
    (hc : X.calm = true) (hN : X.N.Nodup) (I : Inv X pins σ H s) (hi : PI X tg iter wi) (ok : BlkOk X.N X.env.scope scope own)
    (hg : ∀ (s : Shared) (H : Hp) (C : Addr) (cl : List (Str × Addr)) (fp : List Addr), PG (X.blk s H scope (compEnvC scope cl C X.env) fp) tg g) (ht : ∀ (s : Shared) (H : Hp) (C : Addr) (cl : List (Str × Addr)) (fp : List Addr), PTs (X.blk s H scope (compEnvC scope cl C X.env) fp) ifs tt)
    (he : ∀ (s : Shared) (H : Hp) (C : Addr) (cl : List (Str × Addr)) (fp : List Addr), PE (X.blk s H scope (compEnvC scope cl C X.env) fp) elt te) (hs : ∀ x, foldedSetIterable iter X.env x = pure x)
    (h : tLc wi g tt te (own.map (·.2)) σ H Q)
    (hRR : ∀ D C s' m H', Inv X pins σ H' s' → Q (.ref D) H' → s'.heap.Ns C m → FpOk X pins H' C → compPost (model X.prog X.w) X.A X.xe use Qf (.ref D) C (.ok .next) s') :
    wpAny (model X.prog X.w) X.A (comprehension (.ListComp elt [⟨tg, iter, ifs, 0⟩] scope pos) scope X.env pos' (newList []) false (eval iter X.env) use) Qf X.xe s := by
  have hfree : ∀ y ∈ scope.names, y.2 = .free → ∃ c, X.env.cells.lookup y.1 = some c := fun y hy e => by
    rcases ok.free y hy e with k | k
    · exact I.ok.has _ (.inl k)
    · exact I.ok.has _ (.inr k)
  refine wpAny_comprehension_free (use := use) rfl hs (closure_ok hfree) ok.kind (fun y hy e => by rw [ok.uniq y hy, e])
    (thn (hi pins s σ H _ I h) fun xv s1 hx => thn hx fun itv s2 h2 => ?_)
  obtain ⟨it, fp, tn, J, H2, e, I2, T, st2, f2, q⟩ := h2
  subst e
  refine wpAny_newObj_type (newEnv_comp ?_) (by show 0 ≤ sizeLine; decide)
  generalize hD : s2.heap.objs.size = D
  have hDn : H2 D = none := I2.hok.fresh (Nat.le_of_eq hD)
  obtain ⟨W, ⟨m0, w0⟩, turn⟩ := q D hDn
  -- the new list
  generalize hs3 : ({ s2 with heap := s2.heap.push { cls := .type "list", data := .seq ([] : List Value).toArray } } : Shared) = s3
  have I3 : Inv X pins σ (upd H2 D (.lst [])) s3 := by
    rw [← hs3]
    refine I2.laid (t' := s2.toks) (fun b o e => Heap.get?_push_of_some _ e) (Nat.le_of_eq hD) ⟨Nat.zero_le _, [], 0, .nil, ?_⟩
    rw [← hD]
    exact Heap.get?_push_size _ rfl
  have h3 : s3.heap = s2.heap.push { cls := .type "list", data := .seq ([] : List Value).toArray } := by rw [← hs3]
  have sz : ∀ b ∈ fp, b < s2.heap.objs.size := fun b hb => by
    obtain ⟨o, e, _⟩ := T.obj _ _ st2 b hb
    exact Heap.lt_size e
  have f3 : ∀ b ∈ fp, FpOk X pins (upd H2 D (.lst [])) b ∧ b < s3.heap.objs.size := fun b hb => by
    have hlt := sz b hb
    refine ⟨⟨?_, (f2 b hb).2⟩, by rw [h3, Heap.size_push]; exact Nat.lt_succ_of_lt hlt⟩
    rw [upd_ne (by rw [← hD]; exact Nat.ne_of_lt hlt)]
    exact (f2 b hb).1
  have st3 : tn 0 s3.heap := T.keep _ _ _ st2 fun b _ o e => by rw [h3]; exact Heap.get?_push_of_some _ e
  have I4 := block_start I3 ok hN f3
  have pg := hg s3 (upd H2 D (.lst [])) s3.heap.objs.size (cellsFrom (s3.heap.objs.size + 1) scope.names (cloFrom X.env.cells scope.names [])) fp
  have pt := ht s3 (upd H2 D (.lst [])) s3.heap.objs.size (cellsFrom (s3.heap.objs.size + 1) scope.names (cloFrom X.env.cells scope.names [])) fp
  have pe := he s3 (upd H2 D (.lst [])) s3.heap.objs.size (cellsFrom (s3.heap.objs.size + 1) scope.names (cloFrom X.env.cells scope.names [])) fp
  show codeAny _ _ (.compStart (.ListComp elt [⟨tg, iter, ifs, 0⟩] scope pos) 0 (.ref it) (.ref D) (compEnvC scope (cellsFrom (s3.heap.objs.size + 1) scope.names (cloFrom X.env.cells scope.names [])) s3.heap.objs.size X.env)) (compPost (model X.prog X.w) X.A X.xe use Qf (.ref D) s3.heap.objs.size) { s3 with heap := pushCells (s3.heap.push { cls := .type "dict", data := .dict #[] }) scope.names }
  have nfp : ∀ b ∈ fp, (upd H2 D (.lst [])) b = none := fun b hb => (f3 b hb).1.1
  generalize hce : compEnvC scope (cellsFrom (s3.heap.objs.size + 1) scope.names (cloFrom X.env.cells scope.names [])) s3.heap.objs.size X.env = ce at I4 pg pt pe ⊢
  have cL : ce.locals = s3.heap.objs.size := by subst hce; rfl
  generalize hH3 : upd H2 D (.lst []) = H3 at I3 I4 pg pt pe w0 nfp f3
  generalize hs4 : ({ s3 with heap := pushCells (s3.heap.push { cls := .type "dict", data := .dict #[] }) scope.names } : Shared) = s4 at I4 ⊢
  have st4 : tn 0 s4.heap := T.keep _ _ _ st3 fun b _ o e => by rw [← hs4]; exact pushCells_keeps _ _ _ _ (Heap.get?_push_of_some _ e)
  have stat : ∀ {σ' : St} {H' : Hp} {s' : Shared}, Inv (X.blk s3 H3 scope ce fp) [] σ' H' s' → (∀ b ∈ fp, H' b = none) → ∀ b ∈ fp, FpOk (X.blk s3 H3 scope ce fp) [] H' b := fun {σ' H' s'} I' hn b hb =>
    ⟨hn b hb, (I'.ok.exf b hb).1, I'.ok.exfs b hb, .inl hb, fun x c e => (I'.ok.exf b hb).2 x c e, fun p hp => absurd (show p ∈ ([] : List (Addr × Obj)) ++ [] from hp) (by simp)⟩
  have loop : codeAny (model X.prog X.w) X.A (.compLoop (.ListComp elt [⟨tg, iter, ifs, 0⟩] scope pos) 0 (.ref it) (.ref D) ce) (compPost (model X.prog X.w) X.A X.xe use Qf (.ref D) s3.heap.objs.size) s4 := by
    refine compLoop_any (fun n s' => ∃ i H', Inv (X.blk s3 H3 scope ce fp) [] (wipe σ (own.map (·.2))) H' s' ∧ tn i s'.heap ∧ (∀ b ∈ fp, H' b = none) ∧ W i n H') ?_ m0 ⟨0, H3, I4, st4, nfp, w0⟩
    rintro n s5 ⟨i, H5, I5, st5, n5, w5⟩
    rcases turn i n H5 w5 with ⟨stop, qq⟩ | ⟨go, Nx, hNx, step⟩
    · have td := T.done (X.blk s3 H3 scope ce fp) rfl rfl rfl hc i [] s5 _ H5 (fun _ _ => False) I5 (stat I5 n5) st5 stop
      refine thnF td fun r s6 ⟨hr, I6⟩ => ?_
      subst hr
      -- back in the def's context
      have I7 : Inv X pins σ H5 s6 := I3.call' (ch := fp) I6.os I6.base I6.hok I6.bare fun b hb => ⟨(f3 b hb).1.2.2.2.1, (f3 b hb).1.2.1, (f3 b hb).1.2.2.2.2.1, (f3 b hb).1.2.2.2.2.2⟩
      have nC : H5 s3.heap.objs.size = none := by
        have z : H5 ce.locals = none := I6.free
        rw [cL] at z
        exact z
      obtain ⟨m, hn, _⟩ := I6.loc
      have hn : s6.heap.Ns ce.locals m := hn
      rw [cL] at hn
      exact hRR D s3.heap.objs.size s6 m H5 I7 qq hn (I3.fpOk (Nat.le_refl _) nC)
    · have ti := T.item (X.blk s3 H3 scope ce fp) rfl rfl rfl hc i [] s5 _ H5 (fun _ _ => False) I5 (stat I5 n5) st5 go
      refine thnF ti fun r s6 ⟨u, hr, h6⟩ => ?_
      subst hr
      refine thnF h6 fun _ s7 ⟨x, H7, I7, r7, y7, st7, n7⟩ => ?_
      have I7' := I7.pinned (stat I7 n7) (T.obj _ _ st7)
      refine thnF (pg _ s7 _ H7 x u _ I7' r7 (step x H7 y7)) fun _ s8 ⟨σ8, H8, I8, hw8, q8⟩ => ?_
      refine thnF (pt _ s8 σ8 H8 _ I8 q8) fun b s9 ⟨H9, I9, q9⟩ => ?_
      -- the turn's end
      have fin : ∀ {s' : Shared} {H' : Hp}, Inv (X.blk s3 H3 scope ce fp) ([] ++ pinsAt fp s7.heap) σ8 H' s' → Nx H' → ∃ m, m < n ∧ ∃ i H', Inv (X.blk s3 H3 scope ce fp) [] (wipe σ (own.map (·.2))) H' s' ∧ tn i s'.heap ∧ (∀ b ∈ fp, H' b = none) ∧ W i m H' := fun {s' H'} I' nx => by
        obtain ⟨m', hm, w'⟩ := hNx H' nx
        have pin' : ∀ b ∈ fp, ∀ o, s7.heap.get? b = some o → s'.heap.get? b = some o ∧ H' b = none := fun b hb o e =>
          let z := I'.pin (b, o) (List.mem_append_right _ (List.mem_append_right _ (mem_pinsAt hb e)))
          ⟨z.1, z.2.1⟩
        have hl : (wipe σ (own.map (·.2))).length = σ8.length := by rw [← hw8, wipe_length]
        refine ⟨m', hm, i + 1, H', (I'.unpinned (pins := [])).weak hl (fun j v e => ?_), T.keep _ _ _ st7 fun b hb o e => (pin' b hb o e).1, fun b hb => ?_, w'⟩
        · rw [← hw8] at e
          exact (wipe_some e).1
        · obtain ⟨o, e, _⟩ := T.obj _ _ st7 b hb
          exact (pin' b hb o e).2
      cases b with
      | false =>
        simp only [Bool.false_eq_true, if_false] at q9 ⊢
        exact fin I9 q9
      | true =>
        simp only [if_true] at q9 ⊢
        refine thnF (pe _ s9 σ8 H9 _ I9 q9) fun z s10 ⟨yv, H10, I10, r10, acc, hD10, hz10, nx⟩ => ?_
        exact app_ok (X := X.blk s3 H3 scope ce fp) I10 hD10 hz10 r10 fun s11 I11 => fin I11 nx
  exact codeAny_compStart_list loop (T.self X.A 0 _ _ _ st4 loop)
theorem pe_lc {elt tg iter : Expr} {ifs : List Expr} {scope : Scope} {own : List (Str × Nat)} {pos : Pos} {wi : TI} {g : TG} {tt : TT} {te : TE} (hc : X.calm = true) (hN : X.N.Nodup) (hi : PI X tg iter wi) (ok : BlkOk X.N X.env.scope scope own)
    (hg : ∀ (s : Shared) (H : Hp) (C : Addr) (cl : List (Str × Addr)) (fp : List Addr), PG (X.blk s H scope (compEnvC scope cl C X.env) fp) tg g) (ht : ∀ (s : Shared) (H : Hp) (C : Addr) (cl : List (Str × Addr)) (fp : List Addr), PTs (X.blk s H scope (compEnvC scope cl C X.env) fp) ifs tt)
    (he : ∀ (s : Shared) (H : Hp) (C : Addr) (cl : List (Str × Addr)) (fp : List Addr), PE (X.blk s H scope (compEnvC scope cl C X.env) fp) elt te) (hs : ∀ x, foldedSetIterable iter X.env x = pure x := by intro _; rfl) :
    PE X (.ListComp elt [⟨tg, iter, ifs, 0⟩] scope pos) (tLc wi g tt te (own.map (·.2))) := by
  intro pins s σ H Q I h
  rw [eval_ListComp]
  refine lc_core hc hN I hi ok hg ht he hs h fun D C s' m H' I' q hn f => ⟨m, hn, fun h'' sb => ?_⟩
  obtain ⟨f0, f1, f2, f3, f4, f5⟩ := f
  exact ⟨.ref D, H', I'.turned (t' := s'.toks) (fun b o hb e => (sb.2 b hb).trans e) f0 f1 f3 f4 f5, rfl, q⟩
theorem ps_setLc {i : Nat} {y : Str} {py : Pos} {elt tg iter : Expr} {ifs : List Expr} {scope : Scope} {own : List (Str × Nat)} {pos spos : Pos} {wi : TI} {g : TG} {tt : TT} {te : TE} (hc : X.calm = true) (hN : X.N.Nodup) (hy : X.N[i]? = some y) (hyl : X.env.scope.names.lookup y = some .local)
    (hsw : swapsWith (.ListComp elt [⟨tg, iter, ifs, 0⟩] scope pos) (some (.Name y py)) spos.line X.env = pure true) (hi : PI X tg iter wi) (ok : BlkOk X.N X.env.scope scope own)
    (hg : ∀ (s : Shared) (H : Hp) (C : Addr) (cl : List (Str × Addr)) (fp : List Addr), PG (X.blk s H scope (compEnvC scope cl C X.env) fp) tg g) (ht : ∀ (s : Shared) (H : Hp) (C : Addr) (cl : List (Str × Addr)) (fp : List Addr), PTs (X.blk s H scope (compEnvC scope cl C X.env) fp) ifs tt)
    (he : ∀ (s : Shared) (H : Hp) (C : Addr) (cl : List (Str × Addr)) (fp : List Addr), PE (X.blk s H scope (compEnvC scope cl C X.env) fp) elt te) (hs : ∀ x, foldedSetIterable iter X.env x = pure x := by intro _; rfl) :
    PS X (.Assign [.Name y py] (.ListComp elt [⟨tg, iter, ifs, 0⟩] scope pos) spos) (tAsg (tLc wi g tt te (own.map (·.2))) (gName i)) := by
  intro pins s σ H D I h
  rw [exec_Assign_Name_used _ _ _ _ hsw]
  refine wpAny_bind (wpAny_standAt (wpAny_bind ?_))
  show wpAny _ X.A (do let _ ← comprehension (.ListComp elt [⟨tg, iter, ifs, 0⟩] scope pos) scope X.env (firstIterPos [⟨tg, iter, ifs, 0⟩] pos) (newList []) false (eval iter X.env) (some (assign (.Name y py) X.env))) _ _ s
  have h : tLc wi g tt te (own.map (·.2)) σ H (fun x H1 => gName i x σ H1 D.nx) := h
  refine wpAny_bind (thn (lc_core (Qf := fun _ s' => SP X pins D .next s') hc hN I hi ok hg ht he hs h fun L C s' m H' I' q hn f => ?_) fun _ s' hq => wpAny_pure (wpAny_pure hq))
  show wpAny _ _ (assign (.Name y py) X.env (.ref L)) _ _ _
  refine wpAny_assign_Name (store_ok2 (v := V.ref L) I' hN hy (.inl hyl) rfl (fun s2 I2 ⟨a, sb, ha⟩ => ?_) (.inr hyl))
  obtain ⟨f0, f1, f2, f3, f4, f5⟩ := f
  have haC : C ≠ a := by
    rcases ha with z | z
    · rw [z]; exact f1
    · exact fun e => f4 y a z e.symm
  refine ⟨m, hn.sameBut sb haC, fun h3 sb3 => ?_⟩
  exact ⟨_, H', I2.turned (t' := s2.toks) (fun b o hb e => (sb3.2 b hb).trans e) f0 f1 f3 f4 f5, q⟩
theorem sw_true {elt : Expr} {gs : List Comprehension} {scope : Scope} {pos py : Pos} {y : Str} {l : Nat} {env : Env} (hk : env.scope.kind = .function) (hy : env.scope.names.lookup y = some .local) (hl : (py.line == pos.line) = true)
    (ha : (scope.names.any fun (n, k) => n == y && (k == .local || k == .cell)) = false) : swapsWith (.ListComp elt gs scope pos) (some (.Name y py)) l env = pure true := by
  have ky : env.kindOf y = some .local := hy
  have hb : env.blockKind = .function := by unfold Env.blockKind; rw [hk]; rfl
  unfold swapsWith
  simp only [hb, ky, ha, Expr.pos, hl]
  rfl
end
theorem lc_range {lo : Int} {n : Nat} {g : TG} {tt : TT} {te : TE} {vs : List Nat} {σ : St} {H1 : Hp} {D : Addr} {Qd : Hp → Prop} (Pv : Nat → Hp → Prop) (h0 : Pv 0 (upd H1 D (.lst [])))
    (hs : ∀ i H, i < n → Pv i H → g (.int (lo + i)) (wipe σ vs) H fun σ2 H2 => wipe σ2 vs = wipe σ vs ∧ tt σ2 H2 fun b H3 =>
      if b = true then te σ2 H3 fun y H4 => ∃ acc, H4 D = some (.lst acc) ∧ acc.length < sizeLine ∧ Pv (i + 1) (upd H4 D (.lst (acc ++ [y]))) else Pv (i + 1) H3) (hd : ∀ H, Pv n H → Qd H) :
    ∃ W : Nat → Nat → Hp → Prop, (∃ m, W 0 m (upd H1 D (.lst []))) ∧ ∀ i m H, W i m H →
      ((Itr lo n).stop i H ∧ Qd H) ∨ ((Itr lo n).go i H ∧ ∃ Nx : Hp → Prop, (∀ H', Nx H' → ∃ m', m' < m ∧ W (i + 1) m' H') ∧ ∀ x H', (Itr lo n).yld i H x H' → g x (wipe σ vs) H' fun σ2 H2 => wipe σ2 vs = wipe σ vs ∧ tt σ2 H2 fun b H3 =>
        if b = true then te σ2 H3 fun y H4 => ∃ acc, H4 D = some (.lst acc) ∧ acc.length < sizeLine ∧ Nx (upd H4 D (.lst (acc ++ [y]))) else Nx H3) := by
  refine ⟨fun i m H => m = n - i ∧ i ≤ n ∧ Pv i H, ⟨n, by simp, Nat.zero_le _, h0⟩, ?_⟩
  rintro i m H ⟨rfl, hi, p⟩
  by_cases hlt : i < n
  · refine .inr ⟨hlt, Pv (i + 1), fun H' p' => ⟨n - (i + 1), by omega, rfl, hlt, p'⟩, fun x H' y => ?_⟩
    obtain ⟨e, y⟩ := y
    subst e y
    exact hs i _ hlt p
  · have e : i = n := by omega
    subst e
    exact .inl ⟨Nat.le_refl _, hd H p⟩
theorem lc_list {K : PySem.W.Frag} {a : Addr} {xs : List V} {g : TG} {tt : TT} {te : TE} {vs : List Nat} {σ : St} {H1 : Hp} {D : Addr} {Qd : Hp → Prop} (Pv : Nat → Hp → Prop) (h0 : Pv 0 (upd H1 D (.lst []))) (hl : ∀ i H, i ≤ xs.length → Pv i H → SqL K H a xs)
    (hs : ∀ i x H, xs[i]? = some x → Pv i H → g x (wipe σ vs) H fun σ2 H2 => wipe σ2 vs = wipe σ vs ∧ tt σ2 H2 fun b H3 =>
      if b = true then te σ2 H3 fun y H4 => ∃ acc, H4 D = some (.lst acc) ∧ acc.length < sizeLine ∧ Pv (i + 1) (upd H4 D (.lst (acc ++ [y]))) else Pv (i + 1) H3) (hd : ∀ H, Pv xs.length H → Qd H) :
    ∃ W : Nat → Nat → Hp → Prop, (∃ m, W 0 m (upd H1 D (.lst []))) ∧ ∀ i m H, W i m H →
      ((Itl K a).stop i H ∧ Qd H) ∨ ((Itl K a).go i H ∧ ∃ Nx : Hp → Prop, (∀ H', Nx H' → ∃ m', m' < m ∧ W (i + 1) m' H') ∧ ∀ x H', (Itl K a).yld i H x H' → g x (wipe σ vs) H' fun σ2 H2 => wipe σ2 vs = wipe σ vs ∧ tt σ2 H2 fun b H3 =>
        if b = true then te σ2 H3 fun y H4 => ∃ acc, H4 D = some (.lst acc) ∧ acc.length < sizeLine ∧ Nx (upd H4 D (.lst (acc ++ [y]))) else Nx H3) := by
  refine ⟨fun i m H => m = xs.length - i ∧ i ≤ xs.length ∧ Pv i H, ⟨xs.length, by simp, Nat.zero_le _, h0⟩, ?_⟩
  rintro i m H ⟨rfl, hi, p⟩
  have q := hl i H hi p
  by_cases hlt : i < xs.length
  · refine .inr ⟨⟨xs, xs[i], q, by simp [hlt]⟩, Pv (i + 1), fun H' p' => ⟨xs.length - (i + 1), by omega, rfl, hlt, p'⟩, fun x H' y => ?_⟩
    obtain ⟨e, y⟩ := y
    subst e
    exact hs i x _ (y xs q) p
  · have e : i = xs.length := by omega
    subst e
    exact .inl ⟨⟨xs, q, Nat.le_refl _⟩, hd H p⟩
theorem lc_tup {K : PySem.W.Frag} {a : Addr} {xs : List V} {g : TG} {tt : TT} {te : TE} {vs : List Nat} {σ : St} {H1 : Hp} {D : Addr} {Qd : Hp → Prop} (Pv : Nat → Hp → Prop) (h0 : Pv 0 (upd H1 D (.lst []))) (hl : ∀ i H, i ≤ xs.length → Pv i H → SqT K H a xs)
    (hs : ∀ i x H, xs[i]? = some x → Pv i H → g x (wipe σ vs) H fun σ2 H2 => wipe σ2 vs = wipe σ vs ∧ tt σ2 H2 fun b H3 =>
      if b = true then te σ2 H3 fun y H4 => ∃ acc, H4 D = some (.lst acc) ∧ acc.length < sizeLine ∧ Pv (i + 1) (upd H4 D (.lst (acc ++ [y]))) else Pv (i + 1) H3) (hd : ∀ H, Pv xs.length H → Qd H) :
    ∃ W : Nat → Nat → Hp → Prop, (∃ m, W 0 m (upd H1 D (.lst []))) ∧ ∀ i m H, W i m H →
      ((Itt K a).stop i H ∧ Qd H) ∨ ((Itt K a).go i H ∧ ∃ Nx : Hp → Prop, (∀ H', Nx H' → ∃ m', m' < m ∧ W (i + 1) m' H') ∧ ∀ x H', (Itt K a).yld i H x H' → g x (wipe σ vs) H' fun σ2 H2 => wipe σ2 vs = wipe σ vs ∧ tt σ2 H2 fun b H3 =>
        if b = true then te σ2 H3 fun y H4 => ∃ acc, H4 D = some (.lst acc) ∧ acc.length < sizeLine ∧ Nx (upd H4 D (.lst (acc ++ [y]))) else Nx H3) := by
  refine ⟨fun i m H => m = xs.length - i ∧ i ≤ xs.length ∧ Pv i H, ⟨xs.length, by simp, Nat.zero_le _, h0⟩, ?_⟩
  rintro i m H ⟨rfl, hi, p⟩
  have q := hl i H hi p
  by_cases hlt : i < xs.length
  · refine .inr ⟨⟨xs, xs[i], q, by simp [hlt]⟩, Pv (i + 1), fun H' p' => ⟨xs.length - (i + 1), by omega, rfl, hlt, p'⟩, fun x H' y => ?_⟩
    obtain ⟨e, y⟩ := y
    subst e
    exact hs i x _ (y xs q) p
  · have e : i = xs.length := by omega
    subst e
    exact .inl ⟨⟨xs, q, Nat.le_refl _⟩, hd H p⟩
def blkC (N : List Str) (sc scope : Scope) (own : List (Str × Nat)) : Bool :=
  (match scope.kind with | .function => true | _ => false) && (scope.names.all fun y => decide (scope.names.lookup y.1 = some y.2)) && (own.all fun p => decide (N[p.2]? = some p.1)) &&
    (scope.names.all fun y => match y.2 with
      | .free => (match sc.names.lookup y.1 with | some .cell => true | some .free => true | _ => false)
      | .local => decide (y.1 ∈ own.map (·.1)) || decide (y.1 ∉ N)
      | .cell => decide (y.1 ∈ own.map (·.1)) || decide (y.1 ∉ N)
      | _ => true)
theorem blkOk_by {N : List Str} {sc scope : Scope} {own : List (Str × Nat)} (h : blkC N sc scope own = true) : BlkOk N sc scope own := by
  unfold blkC at h
  simp only [Bool.and_eq_true, List.all_eq_true, decide_eq_true_eq] at h
  obtain ⟨⟨⟨h1, h2⟩, h3⟩, h4⟩ := h
  refine ⟨?_, h2, h3, fun y hy e => ?_, fun y hy e => ?_⟩
  · split at h1
    · assumption
    · cases h1
  · have q := h4 y hy
    simp only [e] at q
    split at q <;> first | exact .inl (by assumption) | exact .inr (by assumption) | cases q
  · have q := h4 y hy
    rcases e with e | e <;> (simp only [e, Bool.or_eq_true, decide_eq_true_eq] at q; exact q)
end L2
namespace L2
open PySem PySem.Spec PyProof.Rows
section
variable {prog : Program} {w : World} {A : Around} {R : Result → Shared → Prop} {s : Shared} {elt t0 i0 t1 i1 : Expr} {ifs0 ifs1 : List Expr} {scope : Scope} {pos : Pos} {it acc : Value} {env : Env}
end
section
variable {X : Cx}
end
end L2
namespace L2
open PySem PySem.Spec PyProof.Rows
section
variable {κ : Type} [DecidableEq κ]
def valV (kvs : List (κ × V)) (k : κ) : Option V := (kvs.find? fun kv => decide (kv.1 = k)).map (·.2)
def putK (kvs : List (κ × V)) (k : κ) (v : V) : List (κ × V) :=
  if (kvs.any fun kv => decide (kv.1 = k)) = true then kvs.map (fun kv => if kv.1 = k then (kv.1, v) else kv) else kvs ++ [(k, v)]
def dropK (kvs : List (κ × V)) (k : κ) : List (κ × V) := kvs.filter fun kv => decide (kv.1 ≠ k)
theorem valV_pos {p : κ × V} {r : List (κ × V)} {k : κ} (e : p.1 = k) : valV (p :: r) k = some p.2 := by simp [valV, List.find?_cons, e]
theorem valV_neg {p : κ × V} {r : List (κ × V)} {k : κ} (e : ¬ p.1 = k) : valV (p :: r) k = valV r k := by simp [valV, List.find?_cons, e]
theorem valV_any (k : κ) : ∀ kvs : List (κ × V), (kvs.any fun kv => decide (kv.1 = k)) = (valV kvs k).isSome
  | [] => rfl
  | p :: r => by
    rw [List.any_cons]
    by_cases e : p.1 = k
    · simp only [valV_pos e, decide_eq_true e, Bool.true_or, Option.isSome_some]
    · rw [valV_neg e, decide_eq_false e, Bool.false_or]; exact valV_any k r
theorem length_putK (kvs : List (κ × V)) (k : κ) (v : V) : (putK kvs k v).length ≤ kvs.length + 1 := by
  unfold putK
  split
  · rw [List.length_map]; omega
  · rw [List.length_append, List.length_cons, List.length_nil]; omega
theorem RelO.isSome_eq {o : Option V} {u : Option Value} (r : RelO o u) : o.isSome = u.isSome := by
  cases o with
  | none => cases u with
    | none => rfl
    | some _ => exact (show False from r).elim
  | some _ => cases u with
    | none => exact (show False from r).elim
    | some _ => rfl
theorem RelO.getD {o : Option V} {u : Option Value} {d : V} {d' : Value} (r : RelO o u) (rd : RelV d d') : RelV (o.getD d) (u.getD d') := by
  cases o with
  | none => cases u with
    | none => exact rd
    | some _ => exact (show False from r).elim
  | some _ => cases u with
    | none => exact (show False from r).elim
    | some _ => exact r
theorem KV.val {kvs : List (κ × V)} {vs : List (κ × Value)} (r : KV kvs vs) (k : κ) : RelO (valV kvs k) (valueAt vs k) := by
  unfold KV at r
  induction r with
  | nil => exact True.intro
  | @cons p q ps qs h t ih =>
    obtain ⟨h1, h2⟩ := h
    by_cases e : p.1 = k
    · have e' : q.1 = k := h1.symm.trans e
      have b : valueAt (q :: qs) k = some q.2 := by simp [valueAt, List.find?_cons, e']
      rw [valV_pos e, b]; exact h2
    · have e' : ¬ q.1 = k := fun z => e (h1.trans z)
      have b : valueAt (q :: qs) k = valueAt qs k := by simp [valueAt, List.find?_cons, e']
      rw [valV_neg e, b]; exact ih
theorem KV.any {kvs : List (κ × V)} {vs : List (κ × Value)} (r : KV kvs vs) (k : κ) : (kvs.any fun kv => decide (kv.1 = k)) = vs.any fun kv => decide (kv.1 = k) := by
  unfold KV at r
  induction r with
  | nil => rfl
  | cons h t ih => rw [List.any_cons, List.any_cons, ih, h.1]
theorem KV.repl {kvs : List (κ × V)} {vs : List (κ × Value)} (r : KV kvs vs) (k : κ) {y : V} {u : Value} (ry : RelV y u) :
    KV (kvs.map fun kv => if kv.1 = k then (kv.1, y) else kv) (vs.map fun kv => if kv.1 = k then (kv.1, u) else kv) := by
  unfold KV at r ⊢
  induction r with
  | nil => exact .nil
  | @cons p q ps qs h t ih =>
    rw [List.map_cons, List.map_cons]
    refine .cons ?_ ih
    obtain ⟨h1, h2⟩ := h
    by_cases e : p.1 = k
    · rw [if_pos e, if_pos (h1.symm.trans e)]; exact ⟨h1, ry⟩
    · rw [if_neg e, if_neg (fun z => e (h1.trans z))]; exact ⟨h1, h2⟩
theorem KV.put {kvs : List (κ × V)} {vs : List (κ × Value)} (r : KV kvs vs) (k : κ) {y : V} {u : Value} (ry : RelV y u) : KV (putK kvs k y) (stored vs k u) := by
  unfold putK stored
  rw [r.any k]
  by_cases e : (vs.any fun kv => decide (kv.1 = k)) = true
  · rw [if_pos e, if_pos e]; exact r.repl k ry
  · rw [if_neg e, if_neg e]; exact Paired.snoc r ⟨rfl, ry⟩
theorem KV.drop {kvs : List (κ × V)} {vs : List (κ × Value)} (r : KV kvs vs) (k : κ) : KV (dropK kvs k) (without vs k) := by
  unfold KV at r ⊢
  unfold dropK without
  induction r with
  | nil => exact .nil
  | @cons p q ps qs h t ih =>
    obtain ⟨h1, h2⟩ := h
    rw [List.filter_cons, List.filter_cons]
    by_cases e : p.1 = k
    · have a : ¬ decide (p.1 ≠ k) = true := by simp [e]
      have b : ¬ decide (q.1 ≠ k) = true := by simp [h1.symm.trans e]
      rw [if_neg a, if_neg b]; exact ih
    · have e' : ¬ q.1 = k := fun z => e (h1.trans z)
      have a : decide (p.1 ≠ k) = true := by simp [e]
      have b : decide (q.1 ≠ k) = true := by simp [e']
      rw [if_pos a, if_pos b]; exact .cons ⟨h1, h2⟩ ih
theorem KV.keys {kvs : List (κ × V)} {vs : List (κ × Value)} (r : KV kvs vs) : kvs.map (·.1) = vs.map (·.1) := by
  unfold KV at r
  induction r with
  | nil => rfl
  | cons h t ih => rw [List.map_cons, List.map_cons, ih, h.1]
theorem KV.length {kvs : List (κ × V)} {vs : List (κ × Value)} (r : KV kvs vs) : kvs.length = vs.length := Paired.length r
end
theorem kV_is {P : Program} {w : World} {k : Key} {u : Value} (r : RelV (kV k) u) : (mixKind P w).is k u = true := by
  cases k with
  | inl i => obtain ⟨t, e⟩ := (show ∃ t, u = Value.int i t from r); subst e; exact mixKind_int P w i t
  | inr x => obtain ⟨t, e⟩ := (show ∃ t, u = Value.str x t from r); subst e; exact mixKind_str P w x t
theorem items_are {P : Program} {w : World} : ∀ {ks : List Key} {us : List Value}, Vals (ks.map kV) us → ItemsAre (mixKind P w) ks us
  | [], _, r => by rw [List.map_nil] at r; cases r; exact .nil
  | k :: ks, _, r => by
    rw [List.map_cons] at r
    cases r with
    | cons h t => exact .cons (kV_is h) (items_are t)
abbrev KT (H : Hp) : List (List Key × V) → List (List Key × Addr × Value) → Prop := Paired fun p q => p.1 = q.1 ∧ H q.2.1 = some (.tup (p.1.map kV)) ∧ RelV p.2 q.2.2
theorem KT.val {H : Hp} {kvs : List (List Key × V)} {xs : List (List Key × Addr × Value)} (r : KT H kvs xs) (k : List Key) : RelO (valV kvs k) ((atKey xs k).map (·.2)) := by
  induction r with
  | nil => exact True.intro
  | @cons p q ps qs h t ih =>
    obtain ⟨h1, _, h2⟩ := h
    by_cases e : p.1 = k
    · have e' : q.1 = k := h1.symm.trans e
      have b : atKey (q :: qs) k = some q.2 := by simp [atKey, List.find?_cons, e']
      rw [valV_pos e, b]; exact h2
    · have e' : ¬ q.1 = k := fun z => e (h1.trans z)
      have b : atKey (q :: qs) k = atKey qs k := by simp [atKey, List.find?_cons, e']
      rw [valV_neg e, b]; exact ih
theorem KT.repl {H : Hp} {kvs : List (List Key × V)} {xs : List (List Key × Addr × Value)} (r : KT H kvs xs) (k : List Key) {y : V} {u : Value} (ry : RelV y u) :
    KT H (kvs.map fun kv => if kv.1 = k then (kv.1, y) else kv) (xs.map (putAt k u)) := by
  induction r with
  | nil => exact .nil
  | @cons p q ps qs h t ih =>
    rw [List.map_cons, List.map_cons]
    refine .cons ?_ ih
    obtain ⟨h1, h2, h3⟩ := h
    unfold putAt
    by_cases e : p.1 = k
    · rw [if_pos e, if_pos (h1.symm.trans e)]; exact ⟨h1, h2, ry⟩
    · rw [if_neg e, if_neg (fun z => e (h1.trans z))]; exact ⟨h1, h2, h3⟩
theorem KT.put {H : Hp} {kvs : List (List Key × V)} {xs : List (List Key × Addr × Value)} (r : KT H kvs xs) (k : List Key) {b : Addr} {y : V} {u : Value} (hb : H b = some (.tup (k.map kV))) (ry : RelV y u) :
    KT H (putK kvs k y) (storedH xs k b u) := by
  have e : (kvs.any fun kv => decide (kv.1 = k)) = (atKey xs k).isSome := by
    rw [valV_any, (r.val k).isSome_eq, Option.isSome_map]
  unfold putK storedH
  rw [e]
  by_cases q : (atKey xs k).isSome = true
  · rw [if_pos q, if_pos q]; exact r.repl k ry
  · rw [if_neg q, if_neg q]; exact Paired.snoc r ⟨rfl, hb, ry⟩
theorem KT.keeps {H H' : Hp} {kvs : List (List Key × V)} {xs : List (List Key × Addr × Value)} (r : KT H kvs xs) (ht : ∀ b ys, H b = some (.tup ys) → H' b = some (.tup ys)) : KT H' kvs xs :=
  Paired.mapP r fun _ _ z => ⟨z.1, ht _ _ z.2.1, z.2.2⟩
section
variable {P : Program} {w : World} {H : Hp} {h : Heap} {a : Addr}
theorem rd_of {u : HO} (ok : HOk P w H h) (e : Rd H a u) : ObjOk P w H h a u := e.ok ok
theorem dk_rd {kvs : List (Key × V)} (ok : HOk P w H h) (e : Rd H a (.dK kvs)) : kvs.length ≤ sizeLine ∧ (a == sysModules) = false ∧ ∃ vs, KV kvs vs ∧ h.DictOf (mixKind P w) a vs :=
  show ObjOk P w H h a (.dK kvs) from rd_of ok e
theorem dk_of {kvs : List (Key × V)} (ok : HOk P w H h) (e : H a = some (.dK kvs)) : kvs.length ≤ sizeLine ∧ (a == sysModules) = false ∧ ∃ vs, KV kvs vs ∧ h.DictOf (mixKind P w) a vs := dk_rd ok (.inl e)
theorem key_of {ks : List Key} (ok : HOk P w H h) (e : H a = some (.tup (ks.map kV))) : (tupleKind (mixKind P w)).is h ks a := by
  obtain ⟨_, its, r, o, h1, h2, n, h3⟩ := (show ObjOk P w H h a (.tup (ks.map kV)) from ok a _ e)
  exact ⟨o, its.toArray, n, h1, h2, h3, by simpa using items_are r⟩
theorem dt_rd {kvs : List (List Key × V)} (ok : HOk P w H h) (e : Rd H a (.dT kvs)) : kvs.length ≤ sizeLine ∧ (a == sysModules) = false ∧
    ∃ xs, KT H kvs xs ∧ h.DictOfH (tupleKind (mixKind P w)) a xs := by
  obtain ⟨z, y, xs, r, o, es, ep, h1, h2, h3, h4, h5⟩ := (show ObjOk P w H h a (.dT kvs) from rd_of ok e)
  refine ⟨z, y, xs, r, o, es, ep, h1, h2, h3, h4, fun x hx => ?_, h5⟩
  have all : ∀ {l : List (List Key × V)} {m : List (List Key × Addr × Value)}, KT H l m → ∀ x ∈ m, (tupleKind (mixKind P w)).is h x.1 x.2.1 := by
    intro l m q
    induction q with
    | nil => intro x hx; exact nomatch hx
    | @cons p q ps qs hq t ih =>
      intro x hx
      rcases List.mem_cons.mp hx with e | hx
      · subst e
        exact key_of ok (by rw [← hq.1]; exact hq.2.1)
      · exact ih x hx
  exact all r x hx
theorem dt_of {kvs : List (List Key × V)} (ok : HOk P w H h) (e : H a = some (.dT kvs)) : kvs.length ≤ sizeLine ∧ (a == sysModules) = false ∧
    ∃ xs, KT H kvs xs ∧ h.DictOfH (tupleKind (mixKind P w)) a xs := dt_rd ok (.inl e)
end
def DGet (H : Hp) (a : Addr) (y : V) (r : Option V) : Prop :=
  (∃ kvs k, Rd H a (.dK kvs) ∧ y = kV k ∧ r = valV kvs k) ∨ ∃ kvs k b, Rd H a (.dT kvs) ∧ y = .ref b ∧ H b = some (.tup (k.map kV)) ∧ r = valV kvs k
def DPut (H : Hp) (a : Addr) (y v : V) (H' : Hp) : Prop :=
  (∃ kvs k, H a = some (.dK kvs) ∧ y = kV k ∧ kvs.length < sizeLine ∧ H' = upd H a (.dK (putK kvs k v))) ∨
  ∃ kvs k b, H a = some (.dT kvs) ∧ y = .ref b ∧ H b = some (.tup (k.map kV)) ∧ kvs.length < sizeLine ∧ H' = upd H a (.dT (putK kvs k v))
theorem DGet.k {H : Hp} {a : Addr} {kvs : List (Key × V)} {k : Key} (e : H a = some (.dK kvs)) : DGet H a (kV k) (valV kvs k) := .inl ⟨kvs, k, .inl e, rfl, rfl⟩
theorem DGet.t {H : Hp} {a b : Addr} {kvs : List (List Key × V)} {k : List Key} (e : H a = some (.dT kvs)) (eb : H b = some (.tup (k.map kV))) : DGet H a (.ref b) (valV kvs k) := .inr ⟨kvs, k, b, .inl e, rfl, eb, rfl⟩
theorem DPut.k {H : Hp} {a : Addr} {kvs : List (Key × V)} {k : Key} {v : V} (e : H a = some (.dK kvs)) (hl : kvs.length < sizeLine) : DPut H a (kV k) v (upd H a (.dK (putK kvs k v))) := .inl ⟨kvs, k, e, rfl, hl, rfl⟩
theorem DPut.t {H : Hp} {a b : Addr} {kvs : List (List Key × V)} {k : List Key} {v : V} (e : H a = some (.dT kvs)) (eb : H b = some (.tup (k.map kV))) (hl : kvs.length < sizeLine) :
    DPut H a (.ref b) v (upd H a (.dT (putK kvs k v))) := .inr ⟨kvs, k, b, e, rfl, eb, hl, rfl⟩
section
variable {X : Cx} {pins : List (Addr × Obj)} {σ : St} {H : Hp} {s : Shared} {a : Addr} {y v : V} {u r : Value} {o : Option V} {A : Around} {E : Value → Shared → Prop}
theorem Inv.big (I : Inv X pins σ H s) : sysModules < s.heap.objs.size := by
  have h : mainGlobals < s.heap.objs.size := (I.mod.glob.keeps I.bk).lt
  exact Nat.lt_trans (by decide) h
theorem d_write {h' : Heap} {t' : Nat} {ob : HO} (I : Inv X pins σ H s) (mu : Mut (H a)) (hs : Heap.SameBut a s.heap h') (he : ∃ q, h'.get? a = some q) (new : ObjOk X.prog X.w (upd H a ob) h' a ob) :
    Inv X pins σ (upd H a ob) { s with heap := h', toks := t' } :=
  I.write (x := a) (e := a) mu (.inl rfl) (fun b q hb z => (hs.2 b hb).trans z) he new
theorem dk_new {P : Program} {w : World} {H' : Hp} {h' : Heap} {kvs : List (Key × V)} {vs : List (Key × Value)} (z : kvs.length ≤ sizeLine) (hd : (a == sysModules) = false) (rel : KV kvs vs) (dd : h'.DictOf (mixKind P w) a vs) :
    ObjOk P w H' h' a (.dK kvs) := ⟨z, hd, vs, rel, dd⟩
theorem d_setItem {H' : Hp} {Q : Unit → Shared → Prop} (hu : A.units + 1 < cLine) (I : Inv X pins σ H s) (g : DPut H a y v H') (ry : RelV y u) (rv : RelV v r) (h : ∀ s', Inv X pins σ H' s' → Q () s') :
    wpAny (model X.prog X.w) A (setItem (.ref a) u r) Q E s := by
  rcases g with ⟨kvs, k, e, ey, l, eH⟩ | ⟨kvs, k, b, e, ey, eb, l, eH⟩
  · subst ey eH
    obtain ⟨z, hd, vs, rel, dd⟩ := dk_of I.hok e
    have hz : vs.length ≤ sizeLine := by rw [← rel.length]; exact z
    have hl : (putK kvs k v).length ≤ sizeLine := by have := length_putK kvs k v; omega
    refine wpAny_setItem_pairs (hsz := hz) (kV_is ry) dd fun h' dd' hs => h _ ?_
    have he : ∃ q, h'.get? a = some q := let ⟨q, _, _, hq, _⟩ := dd'; ⟨q, hq⟩
    exact d_write I (by rw [e]; exact True.intro) hs he (dk_new hl hd (rel.put k rv) dd')
  · subst ey eH
    cases (show u = Value.ref b from ry)
    obtain ⟨z, hd, xs, rel, dd⟩ := dt_of I.hok e
    have hz : xs.length ≤ sizeLine := by rw [← Paired.length rel]; exact z
    have hl : (putK kvs k v).length ≤ sizeLine := by have := length_putK kvs k v; omega
    refine wpAny_setItem_heap (hsz := hz) (tupleKind_room_in1 hu) (key_of I.hok eb) dd fun h' dd' hs => h _ ?_
    obtain ⟨q, es, ep, hq, h2, h3, h4, _, h5⟩ := dd'
    refine d_write I (by rw [e]; exact True.intro) hs ⟨q, hq⟩ ⟨hl, hd, _, (rel.put k eb rv).keeps fun c ys ec => ?_, q, es, ep, hq, h2, h3, h4, h5⟩
    rw [upd_ne (ne_of ec e (fun z => nomatch z))]
    exact ec
end
section
variable {X : Cx} {pins : List (Addr × Obj)} {σ : St} {H : Hp} {s : Shared} {a : Addr} {kvs : List (Key × V)} {k : Key} {u : Value} {A : Around} {E : Value → Shared → Prop}
end
def sDPut (td ty tv : TE) : TS := fun D σ H => tv σ H fun v H1 => td σ H1 fun x H2 => ty σ H2 fun y H3 => ∃ a H4, x = .ref a ∧ DPut H3 a y v H4 ∧ D.nx σ H4
section
variable {X : Cx} {o i e value : Expr} {pos pos' tpos : Pos} {td ty tv : TE}
theorem ps_dput (hu : X.A.units + 1 < cLine) (ho : PE X o td) (hi : PE X i ty) (hv : PE X value tv) (hs : swapsWith value (some (.Subscript o i pos')) pos.line X.env = pure false) :
    PS X (.Assign [.Subscript o i pos'] value pos) (sDPut td ty tv) := by
  intro pins s σ H D I h
  refine wpAny_Assign_Subscript (thn (hv pins s σ H _ I h) fun r s1 ⟨v, H1, I1, rv, q1⟩ => thn (ho pins s1 σ H1 _ I1 q1) fun u s2 ⟨x, H2, I2, rx, q2⟩ => thn (hi pins s2 σ H2 _ I2 q2) fun iv s3 ⟨y, H3, I3, ry, a, H4, ex, g, q3⟩ => ?_) hs
  subst ex
  obtain rfl : u = Value.ref a := rx
  exact d_setItem hu I3 g ry rv fun s4 I4 => ⟨σ, H4, I4, q3⟩
end
theorem dt_empty {P : Program} {w : World} {H : Hp} (h : Heap) (hb : sysModules < h.objs.size) : ObjOk P w H (h.push { cls := .type "dict", data := .dict #[] }) h.objs.size (.dT []) :=
  ⟨Nat.zero_le _, beq_eq_false_iff_ne.mpr (Ne.symm (Nat.ne_of_lt hb)), [], .nil, _, #[], 0, Heap.get?_push_size _ rfl, ⟨rfl, rfl, rfl⟩, rfl, rfl, List.nodup_nil⟩
def tDNewT : TE := fun _ H Q => ∀ p, H p = none → Q (.ref p) (upd H p (.dT []))
section
variable {X : Cx} {pos : Pos}
theorem pe_dnewT : PE X (.Dict [] [] pos) tDNewT := fun pins s σ H Q I h =>
  wpAny_Dict_empty ⟨.ref s.heap.objs.size, _, I.laid (a := s.heap.objs.size) (o := .dT []) (t' := s.toks) (fun _ _ q => Heap.get?_push_of_some _ q) (Nat.le_refl _) (dt_empty s.heap I.big), rfl, h _ (I.hok.fresh (Nat.le_refl _))⟩
end
structure M1 (X : Cx) (o : Expr) (m : Str) (apos : Pos) (e : Expr) (cpos : Pos) : Prop where
  base : attributeBase o m X.env (eval o X.env) = eval o X.env
  few : ((backTo cpos (starEach [e] X.env)).all (fun x => !x.1) && (backToKw cpos (keywordEach [] X.env)).all (fun x => x.1.isSome)
    && decide (([e] : List Expr).length + ([] : List Keyword).length + (if ([] : List Keyword).isEmpty then 0 else 1) < 30)) = true
  line : (apos.endLine == cpos.line) = true
  trees : backTo cpos (starEach [e] X.env) = [(false, eval e X.env)]
structure M2 (X : Cx) (o : Expr) (m : Str) (apos : Pos) (e f : Expr) (cpos : Pos) : Prop where
  base : attributeBase o m X.env (eval o X.env) = eval o X.env
  few : ((backTo cpos (starEach [e, f] X.env)).all (fun x => !x.1) && (backToKw cpos (keywordEach [] X.env)).all (fun x => x.1.isSome)
    && decide (([e, f] : List Expr).length + ([] : List Keyword).length + (if ([] : List Keyword).isEmpty then 0 else 1) < 30)) = true
  line : (apos.endLine == cpos.line) = true
  trees : backTo cpos (starEach [e, f] X.env) = [(false, eval e X.env), (false, eval f X.env)]
section
variable {X : Cx} {pins : List (Addr × Obj)} {σ : St} {H : Hp} {s : Shared} {a : Addr} {y d : V} {u r : Value} {o : Option V} {A : Around} {E : Value → Shared → Prop}
end
section
variable {X : Cx} {o e f : Expr} {apos cpos : Pos} {td ty tx : TE}
end
section
variable {X : Cx} {pins : List (Addr × Obj)} {σ : St} {H : Hp} {s : Shared} {a : Addr} {kvs : List (Key × V)} {A : Around} {E : Value → Shared → Prop}
end
section
variable {X : Cx} {pins : List (Addr × Obj)} {σ : St} {H : Hp} {s : Shared} {a : Addr} {y : V} {u : Value} {A : Around} {E : Value → Shared → Prop}
end
end L2
namespace L2
open PySem PySem.Spec PyProof.Rows
section
variable {prog : Program} {w : World} {A : Around} {E : Value → Shared → Prop}
end
section
variable {X : Cx}
end
end L2
namespace L2
open PySem PySem.Spec PyProof.Rows
section
variable {X : Cx} {pins : List (Addr × Obj)} {σ : St} {H : Hp} {s : Shared} {h' : Heap}
end
section
variable {X : Cx}
end
def RgC (i j c : Int) (n : Nat) : Prop := c ≠ 0 ∧ c.natAbs < 1073741824 ∧ Builtin.Range.small i j c = true ∧ Builtin.Range.rangeSize i j c = n
theorem RgC.neg {i j : Int} (ha : -(2 ^ 62) ≤ i) (ha' : i < 2 ^ 62) (hb : -(2 ^ 62) ≤ j) (hb' : j < 2 ^ 62) : RgC i j (-1) (i - j).toNat :=
  ⟨by decide, by decide, PySem.W.small_down ha ha' hb hb', PySem.W.rangeSize_downNat i j⟩
section
variable {X : Cx} {tg : Expr}
end
section
variable {X : Cx} {tg : Expr}
end
section
variable {prog : Program} {w : World} {A : Around} {E : Value → Shared → Prop} {s : Shared}
theorem iter_keys {d : Addr} {o : Obj} {es : Array DictEntry} {ep : Nat} {Q : Value → Shared → Prop} (hd : (d == sysModules) = false) (ho : s.heap.get? d = some o) (hc : o.ExactDict) (hdat : o.data = .dict es ep)
    (hQ : Q (.ref s.heap.objs.size) { s with heap := s.heap.push { cls := .type "dict_keyiterator", data := .fields #[.ref d, .int 0 0, .int es.size 0, .int ep 0] } }) :
    wpAny (model prog w) A (pyIter (.ref d)) Q E s := by
  have hT : s.TypeIs (.ref d) "dict" := ⟨o, ho, hc.1⟩
  refine wpAny_pyIter_slot hT F.slot_dict_iter (wpAny_call_entry F.slot_dict_iter hT F.entry_dict_iter ?_ (F.args_dict_iter_1 _))
  unfold Builtin.«dict.__iter__»
  refine wpAny_bind ?_
  unfold Builtin.Dict.dictSlotNone
  refine wpAny_bind (wpAny_notOrdered_dict hT ?_)
  show wpAny _ _ (pure (Value.ref d)) _ _ s
  refine wpAny_pure ?_
  show wpAny _ _ (Builtin.Dict.showsAll d >>= _) _ _ s
  unfold Builtin.Dict.showsAll
  rw [if_neg (by rw [hd]; exact Bool.false_ne_true)]
  refine wpAny_bind (wpAny_pure ?_)
  refine wpAny_bind (wpAny_dictEntries ho hdat ?_)
  refine wpAny_bind (wpAny_dictEpoch ho hdat ?_)
  refine wpAny_bind (wpAny_newObj_type (wpAny_pure ⟨_, rfl, "dict_keyiterator", _, ⟨_, Heap.get?_push_size _ rfl, rfl⟩, F.slot_dict_keyiterator_next.lookup, ?_⟩))
  simpa [rawInt] using hQ
theorem next_key_item {it d : Addr} {i n ep : Nat} {od : Obj} {es : Array DictEntry} {en : DictEntry} {Q : Option Value → Shared → Prop} (hit : s.heap.IsKeyIter it d i n ep) (hod : s.heap.get? d = some od) (hdd : od.data = .dict es ep)
    (hsz : es.size = n) (hx : es[i]? = some en) (hQ : ∀ h', h'.IsKeyIter it d (i + 1) n ep → Heap.SameBut it s.heap h' → Q (some en.key) { s with heap := h' }) : wpAny (model prog w) A (pyNext (.ref it)) Q E s := by
  obtain ⟨o, ho, hc, hd⟩ := id hit
  unfold pyNext
  refine wpAny_bind (wpAny_attempt (wpAny_callSpecial?_slot (name := Str.ofString "__next__") hit.typeIs F.slot_dict_keyiterator_next
    (wpAny_call_entry F.slot_dict_keyiterator_next hit.typeIs F.entry_dict_keyiterator_next ?_ (F.args_dict_keyiterator_next_1 _))))
  refine wpAny_bind (wpAny_pure ?_)
  refine wpAny_bind ?_
  refine wpAny_bind ?_
  first | refine wpAny_bind (wpAny_typeNameOfWhole_keyiter hit.typeIs (wpAny_pure ?_)) | refine wpAny_bind (wpAny_typeNameOf_keyiter hit.typeIs (wpAny_pure ?_))
  refine wpAny_bind (wpAny_fieldsOf ho hd ?_)
  have hown : Builtin.Dict_items.ownsTuple "dict_keyiterator" = false := by decide
  simp only [hown, Bool.false_eq_true, if_false]
  show wpAny _ _ (if (Value.ref d == Value.none) = true then _ else _) _ _ s
  rw [if_neg (show ¬ ((Value.ref d == Value.none) = true) from Bool.false_ne_true)]
  refine wpAny_bind (wpAny_pure ?_)
  refine wpAny_bind (wpAny_dictEntries hod hdd ?_)
  rw [if_neg (by rw [hsz]; simp)]
  refine wpAny_bind (wpAny_pure ?_)
  refine wpAny_bind (wpAny_dictEpoch hod hdd ?_)
  rw [if_neg (by simp)]
  refine wpAny_pure ?_
  obtain ⟨hlt', hen⟩ := Array.getElem?_eq_some_iff.mp hx
  simp only [show ¬ ((i : Int) < 0) from by omega, if_false, Int.toNat_natCast, Array.getElem?_eq_getElem hlt']
  refine wpAny_bind ?_
  first | refine wpAny_bind (wpAny_typeNameOfWhole_keyiter hit.typeIs (wpAny_pure ?_)) | refine wpAny_bind (wpAny_typeNameOf_keyiter hit.typeIs (wpAny_pure ?_))
  refine wpAny_bind (wpAny_isOneOf_keyiter hit.typeIs ?_)
  show wpAny _ _ (setField (.ref it) 1 (rawInt ((i : Int) + 1)) >>= _) _ _ s
  refine wpAny_bind (wpAny_setField ho hd (by simp) ?_)
  have hit' : (s.heap.update it (Obj.mapFields (·.setIfInBounds 1 (rawInt ((i : Int) + 1))))).IsKeyIter it d (i + 1) n ep :=
    ⟨_, Heap.get?_update_self _ ho (Obj.isFreed_of_fields (Obj.data_mapFields hd _)), (Obj.cls_mapFields ..).trans hc, by rw [Obj.data_mapFields hd]; simp [rawInt]⟩
  refine wpAny_bind (wpAny_holding ?_)
  refine wpAny_bind (wpAny_isOneOf_keyiter (s := { s with heap := s.heap.update it (Obj.mapFields (·.setIfInBounds 1 (rawInt ((i : Int) + 1)))) }) hit'.typeIs ?_)
  show wpAny _ _ (pure es[i].key) _ _ _
  rw [hen]
  exact wpAny_pure (wpAny_pure ⟨_, rfl, wpAny_pure (hQ _ hit' (Heap.SameBut.update ..))⟩)
theorem next_key_end {it d : Addr} {i n ep : Nat} {od : Obj} {es : Array DictEntry} {Q : Option Value → Shared → Prop} (hh : A.handled = none) (hit : s.heap.IsKeyIter it d i n ep) (hod : s.heap.get? d = some od) (hdd : od.data = .dict es ep)
    (hsz : es.size = n) (hge : n ≤ i) (hQ : ∀ h', Heap.ExtBut it s.heap h' → Q none { s with heap := h' }) : wpAny (model prog w) A (pyNext (.ref it)) Q E s := by
  obtain ⟨o, ho, hc, hd⟩ := id hit
  unfold pyNext
  refine wpAny_bind (wpAny_attempt (wpAny_callSpecial?_slot (name := Str.ofString "__next__") hit.typeIs F.slot_dict_keyiterator_next
    (wpAny_call_entry F.slot_dict_keyiterator_next hit.typeIs F.entry_dict_keyiterator_next ?_ (F.args_dict_keyiterator_next_1 _))))
  refine wpAny_bind (wpAny_pure ?_)
  refine wpAny_bind ?_
  refine wpAny_bind ?_
  first | refine wpAny_bind (wpAny_typeNameOfWhole_keyiter hit.typeIs (wpAny_pure ?_)) | refine wpAny_bind (wpAny_typeNameOf_keyiter hit.typeIs (wpAny_pure ?_))
  refine wpAny_bind (wpAny_fieldsOf ho hd ?_)
  have hown : Builtin.Dict_items.ownsTuple "dict_keyiterator" = false := by decide
  simp only [hown, Bool.false_eq_true, if_false]
  show wpAny _ _ (if (Value.ref d == Value.none) = true then _ else _) _ _ s
  rw [if_neg (show ¬ ((Value.ref d == Value.none) = true) from Bool.false_ne_true)]
  refine wpAny_bind (wpAny_pure ?_)
  refine wpAny_bind (wpAny_dictEntries hod hdd ?_)
  rw [if_neg (by rw [hsz]; simp)]
  refine wpAny_bind (wpAny_pure ?_)
  refine wpAny_bind (wpAny_dictEpoch hod hdd ?_)
  rw [if_neg (by simp)]
  refine wpAny_pure ?_
  have hge' : es.size ≤ i := by rw [hsz]; exact hge
  simp only [show ¬ ((i : Int) < 0) from by omega, if_false, Int.toNat_natCast, Array.getElem?_eq_none hge']
  refine wpAny_bind ?_
  first | refine wpAny_bind (wpAny_typeNameOfWhole_keyiter hit.typeIs (wpAny_pure ?_)) | refine wpAny_bind (wpAny_typeNameOf_keyiter hit.typeIs (wpAny_pure ?_))
  show wpAny _ _ (setField (.ref it) 0 .none >>= _) _ _ s
  refine wpAny_bind (wpAny_setField ho hd (by simp) ?_)
  show wpAny _ _ (newExc (.type "StopIteration") [] >>= _) _ _ _
  refine wpAny_bind ?_
  simp only [newExc, newTuple]
  refine wpAny_bind (wpAny_newObj_type ?_ (by size_fits))
  refine wpAny_bind (m := firstArgMember _ _) (wpAny_of_eq (a := Value.none) (by first | rfl | (simp only [firstArgMember]; rfl)) ?_)
  refine wpAny_newObj_type ?_ (by size_fits)
  simp only [raiseNew]
  refine wpAny_bind (wpAny_handled ?_)
  rw [show A.in1.handled = none from hh]
  refine wpAny_bind (wpAny_pure (wpAny_throw ?_))
  refine wpAny_bind (wpAny_isInstance (T := "StopIteration") (b := true) ⟨_, Heap.get?_push_size _ rfl, rfl⟩ isSubtype_stop ?_)
  exact wpAny_pure (hQ _ (((Heap.SameBut.update ..).extBut.push _).push _))
end
theorem paired_get {α β : Type} {G : α → β → Prop} {l₁ : List α} {l₂ : List β} (h : Paired G l₁ l₂) : ∀ {i : Nat} {a : α}, l₁[i]? = some a → ∃ b, l₂[i]? = some b ∧ G a b := by
  induction h with
  | nil => intro i a e; simp at e
  | @cons a b l₁ l₂ r t ih =>
    intro i a' e
    cases i with
    | zero =>
      simp only [List.getElem?_cons_zero, Option.some.injEq] at e
      subst e
      exact ⟨b, rfl, r⟩
    | succ j =>
      simp only [List.getElem?_cons_succ] at e ⊢
      exact ih e
section
variable {X : Cx} {pins : List (Addr × Obj)} {σ : St} {H : Hp} {s : Shared} {d : Addr} {o : Obj}
end
section
variable {P : Program} {w : World} {K : PySem.W.Frag} {tg : Expr} {d : Addr} {o : Obj} {es : Array DictEntry} {ep : Nat}
end
section
variable {X : Cx} {tg e : Expr} {td : TE} {apos cpos : Pos}
end
end L2
section 
namespace Bits
open PySem PyProof.Rows
end Bits
end 
section 
namespace TL
open PySem PySem.Builtin PySem.Builtin.Str PySem.StrLaws
abbrev tl (x : Str) : List Nat := x.cps.toList
def pre (S l : List Nat) : Bool := l.take S.length == S
def par (S : List Nat) : List Nat → List Nat → Option (List Nat × List Nat)
  | _, [] => none
  | acc, c :: r => if pre S (c :: r) = true then some (acc, (c :: r).drop S.length) else par S (acc ++ [c]) r
end TL
end 
namespace L2
open PySem PySem.Spec PyProof.Rows
section
variable {X : Cx} {pins : List (Addr × Obj)} {σ : St} {H : Hp} {s : Shared} {Q : VK}
end
section
variable {X : Cx}
end
section
variable {X : Cx} {o e : Expr} {to te : TE}
end
end L2
namespace L2
open PySem PySem.Spec PyProof.Rows
section
variable {X : Cx}
end
end L2
namespace Att
open PySem PySem.W PySem.Calls PyProof.Rows
section
variable {prog : Program} {w : World} {A : Around} {E : Value → Shared → Prop} {s : Shared} {K : Frag}
end
end Att
namespace L2
open PySem PySem.Spec PyProof.Rows
end L2
namespace L2
open PySem PySem.Spec PyProof.Rows
end L2
namespace L2
open PySem PySem.Spec PyProof.Rows
def defArgs (s : Stmt) : Arguments := match s with
  | .FunctionDef _ a _ _ _ _ _ _ _ _ => a
  | _ => { posonlyargs := [], args := [], vararg := none, kwonlyargs := [], kw_defaults := [], kwarg := none, defaults := [] }
def defBody (s : Stmt) : List Stmt := match s with
  | .FunctionDef _ _ b _ _ _ _ _ _ _ => b
  | _ => []
def defScope (s : Stmt) : Scope := match s with
  | .FunctionDef _ _ _ _ _ _ sc _ _ _ => sc
  | _ => { kind := .function, names := [], isGenerator := false, isCoroutine := false }
abbrev CX0 : CXT := fun _ _ _ _ _ _ => False
abbrev E0 : XK := fun _ _ _ => False
theorem pass0 {X : Cx} : Passes CX0 X E0 := fun _ _ _ _ _ _ _ h => h.elim
structure Fun (K : PySem.W.Frag) (x qual : Str) (st : Stmt) (f : Addr) (fd : FuncData) : Prop where
  ex : ∃ (oc : Value) (od : Option Addr) (kV doc pm : Value) (an : Option Addr) (cdv ct : Value) (osl : Array (Option Value)),
    fd = PySem.W.fnOf x qual (defArgs st) (defBody st) (defScope st) .none kV doc pm an cdv ct ∧ K.lookup f = some ⟨oc, od, .func fd, osl⟩ ∧ PySem.W.codeIn K cdv qual = true
  kp : PySem.W.keepIn K (.ref f) = true
section
variable {P : Program} {w : World} {K : PySem.W.Frag} {mg : Str → Option Value} {base : Heap}
theorem Fun.ok {x qual : Str} {st : Stmt} {f : Addr} {fd : FuncData} {N ps : List Str} {k : Nat} {sp : Sp} (F : Fun K x qual st f fd) (S : FnScope N ps (defScope st)) (len : ∀ vs H Q E, sp vs H Q E → vs.length = ps.length)
    (hbody : ∀ (cdv : Value) (A : Around) (outer : List Env) (s : Shared) (H : Hp) (vs : List V) (Q : VK) (E : XK), Room k (A.deeper (envOfC qual (defScope st) s.heap.objs.size f cdv)) → sp vs H Q E →
      ∃ t, PSs (cxOf CX0 P w K mg base N qual (defScope st) f cdv A outer s H E).nox (defBody st) t ∧ t { nx := fun _ H' => Q .non H', rt := Q } (start N vs) H) : FnOk P w K mg base CX0 (k + 1) f fd ps sp := by
  obtain ⟨oc, od, kV, doc, pm, an, cdv, ct, osl, rfl, lk, hcd⟩ := F.ex
  refine fn_of lk hcd S len fun A outer s H vs Q E hr hsp => ?_
  obtain ⟨t, h, q⟩ := hbody cdv A outer s H vs Q E hr hsp
  exact ⟨t, h.nox, q⟩
theorem Fun.binds {x qual : Str} {st : Stmt} {f : Addr} {fd : FuncData} {ps : List Str} (F : Fun K x qual st f fd)
    (h : ∀ (kV doc pm : Value) (an : Option Addr) (cdv ct : Value) (us : List Value), us.length = ps.length → bindArgs (PySem.W.fnOf x qual (defArgs st) (defBody st) (defScope st) .none kV doc pm an cdv ct) ⟨us, []⟩ = pure (ps.zip us)) : Binds K fd ps [] := by
  obtain ⟨oc, od, kV, doc, pm, an, cdv, ct, osl, rfl, lk, hcd⟩ := F.ex
  exact .all (h kV doc pm an cdv ct)
theorem fun_mk {x qual : Str} {st : Stmt} {f : Addr} {oc : Value} {od an : Option Addr} {osl : Array (Option Value)} {kV doc pm cdv ct : Value} (l : K.lookup f = some ⟨oc, od, .func (PySem.W.fnOf x qual (defArgs st) (defBody st) (defScope st) .none kV doc pm an cdv ct), osl⟩)
    (c : PySem.W.codeIn K cdv qual = true) (k : PySem.W.keepIn K (.ref f) = true) : Fun K x qual st f (PySem.W.fnOf x qual (defArgs st) (defBody st) (defScope st) .none kV doc pm an cdv ct) := ⟨⟨oc, od, kV, doc, pm, an, cdv, ct, osl, rfl, l, c⟩, k⟩
end
theorem hu_of {A : Around} {k : Nat} (hr : Room k A) : A.units + 1 < cLine := Nat.lt_of_le_of_lt (Nat.add_le_add_left (by decide : 1 ≤ 64) _) hr.units
theorem small1000 {n : Nat} (h : n ≤ 1000) : n < sizeLine := Nat.lt_of_le_of_lt h (by decide)
section
variable {X : Cx}
end
theorem iteF {A B : Prop} (h : B) : if false = true then A else B := by
  rw [if_neg Bool.false_ne_true]
  exact h
theorem iteT {A B : Prop} (h : A) : if true = true then A else B := by
  rw [if_pos rfl]
  exact h
def Same (H H' : Hp) : Prop := ∀ b o, H b = some o → H' b = some o
theorem Same.refl (H : Hp) : Same H H := fun _ _ h => h
theorem Same.trans {H H1 H2 : Hp} (a : Same H H1) (b : Same H1 H2) : Same H H2 := fun c o h => b c o (a c o h)
theorem Same.free {H H' : Hp} (e : Same H H') {l : Addr} (h : H' l = Option.none) : H l = Option.none := by
  cases q : H l with
  | none => rfl
  | some o =>
    rw [e l o q] at h
    cases h
theorem Same.seq {K : PySem.W.Frag} {H H' : Hp} {a : Addr} {xs : List V} (e : Same H H') (h : SqL K H a xs) : SqL K H' a xs := by
  rcases h with (h | ⟨o, h⟩) | h
  · exact .inl (.inl (e _ _ h))
  · exact .inl (.inr ⟨o, e _ _ h⟩)
  · exact .inr h
section
variable {κ : Type} [DecidableEq κ]
end
end L2
set_option maxHeartbeats 2000000
namespace L2
open PySem PySem.Spec PyProof.Rows
open PySem.W (WData Codec OpenSpec Well WellAll ReadsW ReadsAllW)
mutual
/-- x stands for the datum d, lists and tuples all the way -/
inductive Dw (K : PySem.W.Frag) (H : Hp) : V → WData → Prop
  | non : Dw K H .non .none
  | bl (b : Bool) : Dw K H (.bl b) (.bool b)
  | int (i : Int) : Dw K H (.int i) (.int i)
  | str (x : Str) : Dw K H (.str x) (.str x)
  | byt (b : Array UInt8) : Dw K H (.byt b) (.bytes b.toList)
  | lst {a : Addr} {xs : List V} {ds : List WData} : SqL K H a xs → DwAll K H xs ds → Dw K H (.ref a) (.list ds)
  | tup {a : Addr} {xs : List V} {ds : List WData} : SqT K H a xs → DwAll K H xs ds → Dw K H (.ref a) (.tuple ds)
inductive DwAll (K : PySem.W.Frag) (H : Hp) : List V → List WData → Prop
  | nil : DwAll K H [] []
  | cons {v : V} {vs : List V} {d : WData} {ds : List WData} : Dw K H v d → DwAll K H vs ds → DwAll K H (v :: vs) (d :: ds)
end
theorem dw_ints {K : PySem.W.Frag} {H : Hp} : ∀ ns : List Int, DwAll K H (ns.map V.int) (ns.map WData.int)
  | [] => .nil
  | n :: r => .cons (.int n) (dw_ints r)
theorem ints_dw {K : PySem.W.Frag} {H : Hp} : ∀ (ns : List Int) (xs : List V), DwAll K H xs (ns.map WData.int) → xs = ns.map V.int
  | [], xs, h => by
    cases h
    rfl
  | n :: r, xs, h => by
    cases h with
    | cons h1 h2 =>
      cases h1
      rw [ints_dw r _ h2] <;> rfl
section
variable {P : Program} {w : World} {K : PySem.W.Frag} {H : Hp} {h : Heap} {R : PySem.W.WRecords} {cl : Str → Option Addr}
theorem sqL_at {a : Addr} {xs : List V} (hok : HOk P w H h) (KX : K.In h) (q : SqL K H a xs) : ∃ (its : List Value) (o : Obj) (n : Nat), Vals xs its ∧ h.get? a = some o ∧ o.cls = .type "list" ∧ o.data = .seq its.toArray n := by
  rcases q with q | ⟨o, its, n, e, hc, _, hd, _, hv⟩
  · obtain ⟨_, its, n, hv, e⟩ := (show ObjOk P w H h a (.lst xs) from q.ok hok)
    exact ⟨its, _, n, hv, e, rfl, rfl⟩
  · exact ⟨its.toList, o, n, hv, KX _ _ e, hc, by simp [hd]⟩
theorem sqT_at {a : Addr} {xs : List V} (hok : HOk P w H h) (KX : K.In h) (q : SqT K H a xs) : ∃ (its : List Value) (o : Obj) (n : Nat), Vals xs its ∧ h.get? a = some o ∧ o.cls = .type "tuple" ∧ o.data = .seq its.toArray n := by
  rcases q with q | ⟨o, its, n, e, hc, hd, _, hv⟩
  · obtain ⟨_, its, hv, o, e, hc, n, hd⟩ := (show ObjOk P w H h a (.tup xs) from q.ok hok)
    exact ⟨its, o, n, hv, e, hc, hd⟩
  · exact ⟨its.toList, o, n, hv, KX _ _ e, hc, by simp [hd]⟩
mutual
theorem Dw.reads (hok : HOk P w H h) (KX : K.In h) : ∀ (d : WData) (v : V) (u : Value), Dw K H v d → RelV v u → ∃ as, ReadsW R cl h u d as
  | .none, _, _, x, r => by
    cases x
    cases r
    exact ⟨_, ReadsW.none⟩
  | .bool b, _, _, x, r => by
    cases x
    cases r
    exact ⟨_, ReadsW.bool b⟩
  | .int i, _, _, x, r => by
    cases x
    obtain ⟨t, rfl⟩ := r
    exact ⟨_, ReadsW.int i t⟩
  | .str s, _, _, x, r => by
    cases x
    obtain ⟨t, rfl⟩ := r
    exact ⟨_, ReadsW.str s t⟩
  | .bytes b, _, _, x, r => by
    cases x
    obtain ⟨t, rfl⟩ := r
    exact ⟨_, ReadsW.bytes _ t⟩
  | .list ds, _, _, x, r => by
    cases x with
    | lst hs ha =>
      cases r
      obtain ⟨its, o, n, rv, ho, hc, hd⟩ := sqL_at hok KX hs
      obtain ⟨as, hr⟩ := Dw.readsAll hok KX ds _ its ha rv
      exact ⟨_, ReadsW.list ho hc hd hr⟩
  | .tuple ds, _, _, x, r => by
    cases x with
    | tup hs ha =>
      cases r
      obtain ⟨its, o, n, rv, ho, hc, hd⟩ := sqT_at hok KX hs
      obtain ⟨as, hr⟩ := Dw.readsAll hok KX ds _ its ha rv
      exact ⟨_, ReadsW.tuple ho hc hd hr⟩
  | .float _, _, _, x, _ => by cases x
  | .dict _, _, _, x, _ => by cases x
  | .bytearray _, _, _, x, _ => by cases x
  | .set _, _, _, x, _ => by cases x
  | .frozenset _, _, _, x, _ => by cases x
  | .obj _ _, _, _, x, _ => by cases x
theorem Dw.readsAll (hok : HOk P w H h) (KX : K.In h) : ∀ (ds : List WData) (vs : List V) (us : List Value), DwAll K H vs ds → Vals vs us → ∃ as, ReadsAllW R cl h us ds as
  | [], _, _, x, r => by
    cases x
    cases r
    exact ⟨_, ReadsAllW.nil⟩
  | d :: ds, _, _, x, r => by
    cases x with
    | cons h1 h2 =>
      cases r with
      | cons r1 r2 =>
        obtain ⟨as, q1⟩ := Dw.reads hok KX d _ _ h1 r1
        obtain ⟨bs, q2⟩ := Dw.readsAll hok KX ds _ _ h2 r2
        exact ⟨_, ReadsAllW.cons q1 q2⟩
end
end
mutual
/-- data that a codec tells -/
def plW : WData → Bool
  | .none => true
  | .bool _ => true
  | .int _ => true
  | .str _ => true
  | .bytes _ => true
  | .list xs => plWs xs
  | .tuple xs => plWs xs
  | _ => false
def plWs : List WData → Bool
  | [] => true
  | x :: r => plW x && plWs r
end
theorem weight_mem : ∀ {xs : List WData} {d : WData}, d ∈ xs → d.weight ≤ WData.weightAll xs
  | [], d, h => absurd h (by simp)
  | x :: r, d, h => by
    show d.weight ≤ x.weight + 1 + WData.weightAll r
    rcases List.mem_cons.mp h with e | m
    · rw [e]
      omega
    · have z := weight_mem m
      omega
def toV : Value → V
  | .none => .non
  | .bool b => .bl b
  | .int i _ => .int i
  | .str x _ => .str x
  | .bytes b _ => .byt b
  | .ref a => .ref a
  | _ => .non
def OkU (A : List Addr) : Value → Prop
  | .none => True
  | .bool _ => True
  | .int _ _ => True
  | .str _ _ => True
  | .bytes _ _ => True
  | .ref a => a ∈ A
  | _ => False
theorem OkU.mono {A B : List Addr} (h : ∀ a ∈ A, a ∈ B) : ∀ {u : Value}, OkU A u → OkU B u := fun {u} x => by
  cases u with
  | ref a => exact h a x
  | none => trivial
  | bool b => trivial
  | int i t => trivial
  | str s t => trivial
  | bytes b t => trivial
  | _ => exact False.elim x
theorem relV_toV {A : List Addr} {u : Value} (x : OkU A u) : RelV (toV u) u := by
  cases u with
  | ref a => rfl
  | none => rfl
  | bool b => rfl
  | int i t => exact ⟨t, rfl⟩
  | str s t => exact ⟨t, rfl⟩
  | bytes b t => exact ⟨t, rfl⟩
  | _ => exact False.elim x
theorem vals_toV {A : List Addr} : ∀ {vs : List Value}, (∀ u ∈ vs, OkU A u) → Vals (vs.map toV) vs
  | [], _ => .nil
  | u :: r, h => .cons (relV_toV (h u (List.mem_cons_self ..))) (vals_toV fun x hx => h x (List.mem_cons_of_mem _ hx))
def ArgOb (h : Heap) (A : List Addr) (a : Addr) : Prop := ∃ vs : List Value, vs.length ≤ sizeLine ∧ (∀ u ∈ vs, OkU A u) ∧
  (h.get? a = some { cls := .type "list", data := .seq vs.toArray } ∨ h.get? a = some { cls := .type "tuple", data := .seq vs.toArray })
theorem ArgOb.mono {h : Heap} {A B : List Addr} {a : Addr} (k : ∀ a ∈ A, a ∈ B) (x : ArgOb h A a) : ArgOb h B a := by
  obtain ⟨vs, h1, h2, h3⟩ := x
  exact ⟨vs, h1, fun u hu => (h2 u hu).mono k, h3⟩
theorem wellAll_len {P : Params} {h : Heap} : ∀ {vs : List Value} {ds : List WData}, WellAll P h vs ds → vs.length = ds.length
  | _, _, .nil => rfl
  | _, _, .cons _ b => by
    show _ + 1 = _ + 1
    rw [wellAll_len b]
theorem well_list {P : Params} {h : Heap} {v : Value} {ds : List WData} (x : Well P h v (.list ds)) : ∃ (a : Addr) (vs : List Value), v = .ref a ∧ h.get? a = some { cls := .type "list", data := .seq vs.toArray } ∧ WellAll P h vs ds := by
  cases x with
  | list ho hall => exact ⟨_, _, rfl, ho, hall⟩
theorem well_tuple {P : Params} {h : Heap} {v : Value} {ds : List WData} (x : Well P h v (.tuple ds)) : ∃ (a : Addr) (vs : List Value), v = .ref a ∧ h.get? a = some { cls := .type "tuple", data := .seq vs.toArray } ∧ WellAll P h vs ds := by
  cases x with
  | tuple ho hall => exact ⟨_, _, rfl, ho, hall⟩
theorem well_cons {P : Params} {h : Heap} {us : List Value} {d : WData} {ds : List WData} (x : WellAll P h us (d :: ds)) : ∃ (v : Value) (vs : List Value), us = v :: vs ∧ Well P h v d ∧ WellAll P h vs ds := by
  cases x with
  | cons a b => exact ⟨_, _, rfl, a, b⟩
theorem line_of {n : Nat} (h : n ≤ 1048576) : n ≤ sizeLine := Nat.le_trans h (by decide)
section
variable {P : Params} {h : Heap}
mutual
theorem area_one : ∀ (d : WData) (v : Value), Well P h v d → plW d = true → d.weight ≤ 1048576 → ∃ A : List Addr, OkU A v ∧ ∀ a ∈ A, ArgOb h A a
  | .none, _, x, _, _ => by
    cases x
    exact ⟨[], trivial, fun a m => absurd m (by simp)⟩
  | .bool b, _, x, _, _ => by
    cases x
    exact ⟨[], trivial, fun a m => absurd m (by simp)⟩
  | .int i, _, x, _, _ => by
    cases x
    exact ⟨[], trivial, fun a m => absurd m (by simp)⟩
  | .str s, _, x, _, _ => by
    cases x
    exact ⟨[], trivial, fun a m => absurd m (by simp)⟩
  | .bytes b, _, x, _, _ => by
    cases x
    exact ⟨[], trivial, fun a m => absurd m (by simp)⟩
  | .list ds, _, x, p, z => by
    obtain ⟨a, vs, rfl, ho, hall⟩ := well_list x
    have z2 : WData.weightAll ds ≤ 1048576 := z
    obtain ⟨A, h1, h2⟩ := area_all ds _ hall p fun d hd => Nat.le_trans (weight_mem hd) z2
    have k : ∀ b ∈ A, b ∈ a :: A := fun b hb => List.mem_cons_of_mem _ hb
    refine ⟨a :: A, List.mem_cons_self .., fun b hb => ?_⟩
    rcases List.mem_cons.mp hb with e | m
    · rw [e]
      exact ⟨vs, line_of (by rw [wellAll_len hall]; exact Nat.le_trans (PySem.W.length_le_weightAllW ds) z2), fun u hu => (h1 u hu).mono k, .inl ho⟩
    · exact (h2 b m).mono k
  | .tuple ds, _, x, p, z => by
    obtain ⟨a, vs, rfl, ho, hall⟩ := well_tuple x
    have z2 : WData.weightAll ds ≤ 1048576 := z
    obtain ⟨A, h1, h2⟩ := area_all ds _ hall p fun d hd => Nat.le_trans (weight_mem hd) z2
    have k : ∀ b ∈ A, b ∈ a :: A := fun b hb => List.mem_cons_of_mem _ hb
    refine ⟨a :: A, List.mem_cons_self .., fun b hb => ?_⟩
    rcases List.mem_cons.mp hb with e | m
    · rw [e]
      exact ⟨vs, line_of (by rw [wellAll_len hall]; exact Nat.le_trans (PySem.W.length_le_weightAllW ds) z2), fun u hu => (h1 u hu).mono k, .inr ho⟩
    · exact (h2 b m).mono k
  | .float _, _, _, p, _ => Bool.noConfusion (show false = true from p)
  | .dict _, _, _, p, _ => Bool.noConfusion (show false = true from p)
  | .bytearray _, _, _, p, _ => Bool.noConfusion (show false = true from p)
  | .set _, _, _, p, _ => Bool.noConfusion (show false = true from p)
  | .frozenset _, _, _, p, _ => Bool.noConfusion (show false = true from p)
  | .obj _ _, _, _, p, _ => Bool.noConfusion (show false = true from p)
theorem area_all : ∀ (ds : List WData) (vs : List Value), WellAll P h vs ds → plWs ds = true → (∀ d ∈ ds, d.weight ≤ 1048576) → ∃ A : List Addr, (∀ u ∈ vs, OkU A u) ∧ ∀ a ∈ A, ArgOb h A a
  | [], _, x, _, _ => by
    cases x
    exact ⟨[], fun u m => absurd m (by simp), fun a m => absurd m (by simp)⟩
  | d :: ds, _, x, p, z => by
    obtain ⟨v, vs, rfl, x1, x2⟩ := well_cons x
    have q : plW d = true ∧ plWs ds = true := Bool.and_eq_true_iff.mp p
    obtain ⟨A, a1, a2⟩ := area_one d v x1 q.1 (z d (List.mem_cons_self ..))
    obtain ⟨B, b1, b2⟩ := area_all ds vs x2 q.2 fun e he => z e (List.mem_cons_of_mem _ he)
    have kA : ∀ b ∈ A, b ∈ A ++ B := fun b hb => List.mem_append.mpr (.inl hb)
    have kB : ∀ b ∈ B, b ∈ A ++ B := fun b hb => List.mem_append.mpr (.inr hb)
    refine ⟨A ++ B, fun u hu => ?_, fun b hb => ?_⟩
    · rcases List.mem_cons.mp hu with e | m
      · rw [e]
        exact a1.mono kA
      · exact (b1 u m).mono kB
    · rcases List.mem_append.mp hb with m | m
      · exact (a2 b m).mono kA
      · exact (b2 b m).mono kB
end
end
def hoOf (o : Obj) : Option HO := match o.data with
  | .seq vs _ => if (o.cls == Value.type "list") = true then some (.frz o (.lst (vs.toList.map toV))) else some (.frz o (.tup (vs.toList.map toV)))
  | _ => none
def argH (K : PySem.W.Frag) (h : Heap) (A : List Addr) : Hp := fun b => if b ∈ A then (if (K.lookup b).isNone = true then (h.get? b).bind hoOf else none) else none
theorem hoOf_lst (vs : List Value) : hoOf { cls := .type "list", data := .seq vs.toArray } = some (.frz { cls := .type "list", data := .seq vs.toArray } (.lst (vs.map toV))) := by
  show (if (Value.type "list" == Value.type "list") = true then some (HO.frz { cls := .type "list", data := .seq vs.toArray } (.lst (vs.toArray.toList.map toV))) else some (HO.frz { cls := .type "list", data := .seq vs.toArray } (.tup (vs.toArray.toList.map toV)))) = _
  rw [if_pos (beq_self_eq_true _)]
theorem hoOf_tup (vs : List Value) : hoOf { cls := .type "tuple", data := .seq vs.toArray } = some (.frz { cls := .type "tuple", data := .seq vs.toArray } (.tup (vs.map toV))) := by
  show (if (Value.type "tuple" == Value.type "list") = true then some (HO.frz { cls := .type "tuple", data := .seq vs.toArray } (.lst (vs.toArray.toList.map toV))) else some (HO.frz { cls := .type "tuple", data := .seq vs.toArray } (.tup (vs.toArray.toList.map toV)))) = _
  rw [if_neg (by decide)]
section
variable {P : Program} {w : World} {K : PySem.W.Frag} {h : Heap} {A : List Addr}
theorem argH_at {b : Addr} {o : Obj} (hb : b ∈ A) (hk : K.lookup b = none) (e : h.get? b = some o) : argH K h A b = hoOf o := by
  unfold argH
  rw [if_pos hb, hk, if_pos (show (none : Option Obj).isNone = true from rfl), e] <;> rfl
theorem seq_inj {c c' : Value} {vs us : List Value} (e : (some { cls := c, data := .seq vs.toArray } : Option Obj) = some { cls := c', data := .seq us.toArray }) : c = c' ∧ vs = us := by
  have e1 := Option.some.inj e
  have e2 : c = c' := congrArg Obj.cls e1
  have e3 : Data.seq vs.toArray = Data.seq us.toArray := congrArg Obj.data e1
  injection e3 with e4
  refine ⟨e2, ?_⟩
  have e5 := congrArg Array.toList e4
  simpa using e5
theorem argL (KX : K.In h) (ar : ∀ a ∈ A, ArgOb h A a) {a : Addr} {vs : List Value} (ha : a ∈ A) (e : h.get? a = some { cls := .type "list", data := .seq vs.toArray }) : (∀ u ∈ vs, OkU A u) ∧ SqL K (argH K h A) a (vs.map toV) := by
  obtain ⟨us, h1, h2, h3⟩ := ar a ha
  have hu : us = vs := by
    rcases h3 with q | q
    · rw [e] at q
      exact (seq_inj q).2.symm
    · rw [e] at q
      exact absurd (Value.type.inj (seq_inj q).1) (by decide)
  subst hu
  refine ⟨h2, ?_⟩
  cases hk : K.lookup a with
  | none => exact .inl (.inr ⟨_, by rw [argH_at ha hk e, hoOf_lst]⟩)
  | some o =>
    have e2 := KX a o hk
    rw [e] at e2
    obtain rfl := Option.some.inj e2
    exact .inr ⟨_, us.toArray, _, hk, rfl, rfl, rfl, by rw [List.size_toArray]; exact h1, by simpa using vals_toV h2⟩
theorem argT (KX : K.In h) (ar : ∀ a ∈ A, ArgOb h A a) {a : Addr} {vs : List Value} (ha : a ∈ A) (e : h.get? a = some { cls := .type "tuple", data := .seq vs.toArray }) : (∀ u ∈ vs, OkU A u) ∧ SqT K (argH K h A) a (vs.map toV) := by
  obtain ⟨us, h1, h2, h3⟩ := ar a ha
  have hu : us = vs := by
    rcases h3 with q | q
    · rw [e] at q
      exact absurd (Value.type.inj (seq_inj q).1) (by decide)
    · rw [e] at q
      exact (seq_inj q).2.symm
  subst hu
  refine ⟨h2, ?_⟩
  cases hk : K.lookup a with
  | none => exact .inl (.inr ⟨_, by rw [argH_at ha hk e, hoOf_tup]⟩)
  | some o =>
    have e2 := KX a o hk
    rw [e] at e2
    obtain rfl := Option.some.inj e2
    exact .inr ⟨_, us.toArray, _, hk, rfl, rfl, by rw [List.size_toArray]; exact h1, by simpa using vals_toV h2⟩
mutual
theorem dw_one {Pm : Params} (KX : K.In h) (ar : ∀ a ∈ A, ArgOb h A a) : ∀ (d : WData) (v : Value), Well Pm h v d → plW d = true → OkU A v → Dw K (argH K h A) (toV v) d
  | .none, _, x, _, _ => by
    cases x
    exact .non
  | .bool b, _, x, _, _ => by
    cases x
    exact .bl b
  | .int i, _, x, _, _ => by
    cases x
    exact .int i
  | .str s, _, x, _, _ => by
    cases x
    exact .str s
  | .bytes b, _, x, _, _ => by
    cases x
    have z := Dw.byt (K := K) (H := argH K h A) b.toArray
    exact z
  | .list ds, _, x, p, hu => by
    obtain ⟨a, vs, rfl, ho, hall⟩ := well_list x
    obtain ⟨h2, hs⟩ := argL KX ar hu ho
    exact .lst hs (dw_all KX ar ds _ hall p h2)
  | .tuple ds, _, x, p, hu => by
    obtain ⟨a, vs, rfl, ho, hall⟩ := well_tuple x
    obtain ⟨h2, hs⟩ := argT KX ar hu ho
    exact .tup hs (dw_all KX ar ds _ hall p h2)
  | .float _, _, _, p, _ => Bool.noConfusion (show false = true from p)
  | .dict _, _, _, p, _ => Bool.noConfusion (show false = true from p)
  | .bytearray _, _, _, p, _ => Bool.noConfusion (show false = true from p)
  | .set _, _, _, p, _ => Bool.noConfusion (show false = true from p)
  | .frozenset _, _, _, p, _ => Bool.noConfusion (show false = true from p)
  | .obj _ _, _, _, p, _ => Bool.noConfusion (show false = true from p)
theorem dw_all {Pm : Params} (KX : K.In h) (ar : ∀ a ∈ A, ArgOb h A a) : ∀ (ds : List WData) (vs : List Value), WellAll Pm h vs ds → plWs ds = true → (∀ u ∈ vs, OkU A u) → DwAll K (argH K h A) (vs.map toV) ds
  | [], _, x, _, _ => by
    cases x
    exact .nil
  | d :: ds, _, x, p, hu => by
    obtain ⟨v, vs, rfl, x1, x2⟩ := well_cons x
    have q : plW d = true ∧ plWs ds = true := Bool.and_eq_true_iff.mp p
    exact .cons (dw_one KX ar d v x1 q.1 (hu _ (List.mem_cons_self ..))) (dw_all KX ar ds vs x2 q.2 fun u m => hu u (List.mem_cons_of_mem _ m))
end
end
theorem encAll_len : ∀ (cs : List Codec) (a : Codec.denoteAll cs), (Codec.encAll cs a).length = cs.length
  | [], _ => rfl
  | c :: cs, a => by
    show (Codec.encAll cs a.2).length + 1 = cs.length + 1
    rw [encAll_len cs a.2]
end L2
set_option linter.unusedVariables false
namespace Rf
open Rg
def Ok (R : Ring) : Prop := (R.t = 0 ∧ R.c = 1) ∨ (R.t = 0 ∧ R.c = 2) ∨ (R.t = 1 ∧ R.c = 1) ∨ (R.t = 1 ∧ R.c = 2) ∨ (R.t = 1 ∧ R.c = 3)
theorem sq_nonneg (a : Int) : 0 ≤ a * a := by
  rcases Int.le_total 0 a with h | h
  · exact Int.mul_nonneg h h
  · exact Int.mul_nonneg_of_nonpos_of_nonpos h h
theorem sq_zero {a : Int} (h : a * a = 0) : a = 0 := by
  rcases Int.mul_eq_zero.mp h with h | h <;> exact h
theorem sq_le {a b : Int} (h1 : -b ≤ a) (h2 : a ≤ b) : a * a ≤ b * b := by
  have := Int.mul_nonneg (show 0 ≤ b - a by omega) (show 0 ≤ b + a by omega)
  have e : (b - a) * (b + a) = b * b - a * a := by grind
  omega
theorem sq_ge {a b : Int} (hb : 0 ≤ b) (h : b ≤ a ∨ a ≤ -b) : b * b ≤ a * a := by
  rcases h with h | h
  · have := Int.mul_nonneg (show 0 ≤ a - b by omega) (show 0 ≤ a + b by omega)
    have e : (a - b) * (a + b) = a * a - b * b := by grind
    omega
  · have := Int.mul_nonneg (show 0 ≤ -a - b by omega) (show 0 ≤ -a + b by omega)
    have e : (-a - b) * (-a + b) = a * a - b * b := by grind
    omega
theorem four_norm (R : Ring) (x : Zw) : 4 * norm R x = (2 * x.a + R.t * x.b) * (2 * x.a + R.t * x.b) + (4 * R.c - R.t * R.t) * (x.b * x.b) := by
  simp only [norm]; grind
theorem four_norm' (R : Ring) (x : Zw) : 4 * R.c * norm R x = (2 * R.c * x.b + R.t * x.a) * (2 * R.c * x.b + R.t * x.a) + (4 * R.c - R.t * R.t) * (x.a * x.a) := by
  simp only [norm]; grind
theorem norm_nonneg {R : Ring} (h : Ok R) (x : Zw) : 0 ≤ norm R x := by
  have e := four_norm R x
  have h1 := sq_nonneg (2 * x.a + R.t * x.b)
  have h2 := sq_nonneg x.b
  rcases h with ⟨ht, hc⟩ | ⟨ht, hc⟩ | ⟨ht, hc⟩ | ⟨ht, hc⟩ | ⟨ht, hc⟩ <;> rw [ht, hc] at e <;> rw [ht] at h1 <;> omega
theorem norm_zero (R : Ring) : norm R zero = 0 := by simp [norm, zero]
theorem norm_eq_zero {R : Ring} (h : Ok R) {x : Zw} (hx : norm R x = 0) : x = zero := by
  have e := four_norm R x
  have h1 := sq_nonneg (2 * x.a + R.t * x.b)
  have h2 := sq_nonneg x.b
  have hb : x.b = 0 := by
    apply sq_zero
    rcases h with ⟨ht, hc⟩ | ⟨ht, hc⟩ | ⟨ht, hc⟩ | ⟨ht, hc⟩ | ⟨ht, hc⟩ <;> rw [ht, hc] at e <;> rw [ht] at h1 <;> omega
  have ha : x.a = 0 := by
    apply sq_zero
    have : norm R x = x.a * x.a := by simp only [norm, hb]; grind
    omega
  cases x; simp only at ha hb; subst ha hb; rfl
theorem norm_pos {R : Ring} (h : Ok R) {x : Zw} (hx : x ≠ zero) : 0 < norm R x := by
  have h1 := norm_nonneg h x
  have h2 : norm R x ≠ 0 := fun e => hx (norm_eq_zero h e)
  omega
theorem norm_mul (R : Ring) (x y : Zw) : norm R (mul R x y) = norm R x * norm R y := by
  simp only [norm, mul]; grind
theorem norm_mirror (R : Ring) (x : Zw) : norm R (mirror R x) = norm R x := by
  simp only [norm, mirror]; grind
theorem mul_comm (R : Ring) (x y : Zw) : mul R x y = mul R y x := by
  simp only [mul, Zw.mk.injEq]; constructor <;> grind
theorem mul_assoc (R : Ring) (x y z : Zw) : mul R (mul R x y) z = mul R x (mul R y z) := by
  simp only [mul, Zw.mk.injEq]; constructor <;> grind
theorem mul_one (R : Ring) (x : Zw) : mul R x one = x := by
  cases x; simp only [mul, one, Zw.mk.injEq]; constructor <;> grind
theorem one_mul (R : Ring) (x : Zw) : mul R one x = x := by
  cases x; simp only [mul, one, Zw.mk.injEq]; constructor <;> grind
theorem mul_zero (R : Ring) (x : Zw) : mul R x zero = zero := by
  simp only [mul, zero, Zw.mk.injEq]; constructor <;> grind
theorem zero_mul (R : Ring) (x : Zw) : mul R zero x = zero := by
  simp only [mul, zero, Zw.mk.injEq]; constructor <;> grind
theorem mul_mirror (R : Ring) (x : Zw) : mul R x (mirror R x) = ⟨norm R x, 0⟩ := by
  simp only [mul, mirror, norm, Zw.mk.injEq]; constructor <;> grind
theorem mirror_mirror (R : Ring) (x : Zw) : mirror R (mirror R x) = x := by
  cases x; simp only [mirror, Zw.mk.injEq]; constructor <;> grind
theorem mirror_mul (R : Ring) (x y : Zw) : mirror R (mul R x y) = mul R (mirror R x) (mirror R y) := by
  simp only [mul, mirror, Zw.mk.injEq]; constructor <;> grind
theorem mul_add (R : Ring) (x y z : Zw) : mul R x (add y z) = add (mul R x y) (mul R x z) := by
  simp only [mul, add, Zw.mk.injEq]; constructor <;> grind
theorem mul_less (R : Ring) (x y z : Zw) : mul R x (less y z) = less (mul R x y) (mul R x z) := by
  simp only [mul, less, Zw.mk.injEq]; constructor <;> grind
theorem mul_eq_zero {R : Ring} (h : Ok R) {x y : Zw} (e : mul R x y = zero) : x = zero ∨ y = zero := by
  have := norm_mul R x y
  rw [e, norm_zero] at this
  rcases Int.mul_eq_zero.mp this.symm with k | k
  · exact .inl (norm_eq_zero h k)
  · exact .inr (norm_eq_zero h k)
theorem mul_cancel {R : Ring} (h : Ok R) {x y z : Zw} (hx : x ≠ zero) (e : mul R x y = mul R x z) : y = z := by
  have : mul R x (less y z) = zero := by
    rw [mul_less, e]; simp [less, zero]
  rcases mul_eq_zero h this with k | k
  · exact absurd k hx
  · cases y; cases z; simp only [less, zero, Zw.mk.injEq] at k ⊢; omega
theorem rest_norm (R : Ring) (x y q : Zw) :
    norm R (less x (mul R q y)) * norm R y = norm R ⟨(mul R x (mirror R y)).a - norm R y * q.a, (mul R x (mirror R y)).b - norm R y * q.b⟩ := by
  rw [← norm_mirror R y, ← norm_mul, norm_mirror R y]
  congr 1
  simp only [mul, mirror, norm, less, Zw.mk.injEq]; constructor <;> grind
end Rf
set_option linter.unusedVariables false
namespace Rf
open Rg
def Best (R : Ring) (x y p q : Zw) : Prop :=
  norm R (less x (mul R p y)) < norm R (less x (mul R q y)) ∨ (norm R (less x (mul R p y)) = norm R (less x (mul R q y)) ∧ (p = q ∨ before p q = true))
theorem before_iff (p q : Zw) : before p q = true ↔ p.a < q.a ∨ (p.a = q.a ∧ p.b < q.b) := by
  simp [before]
theorem before_total (p q : Zw) : p = q ∨ before p q = true ∨ before q p = true := by
  rw [before_iff, before_iff]
  cases p with | mk pa pb => cases q with | mk qa qb => simp only [Zw.mk.injEq]; omega
theorem before_trans {p q r : Zw} (h1 : before p q = true) (h2 : before q r = true) : before p r = true := by
  rw [before_iff] at *; omega
theorem before_asymm {p q : Zw} (h1 : before p q = true) (h2 : before q p = true) : False := by
  rw [before_iff] at *; omega
theorem before_irrefl {p : Zw} (h1 : before p p = true) : False := by
  rw [before_iff] at *; omega
theorem Best.refl (R : Ring) (x y p : Zw) : Best R x y p p := .inr ⟨rfl, .inl rfl⟩
theorem Best.trans {R : Ring} {x y p q r : Zw} (h1 : Best R x y p q) (h2 : Best R x y q r) : Best R x y p r := by
  unfold Best at *
  rcases h1 with h1 | ⟨h1, k1⟩
  · rcases h2 with h2 | ⟨h2, k2⟩
    · left; omega
    · left; omega
  · rcases h2 with h2 | ⟨h2, k2⟩
    · left; omega
    · right
      refine ⟨by omega, ?_⟩
      rcases k1 with rfl | k1
      · exact k2
      · rcases k2 with rfl | k2
        · exact .inr k1
        · exact .inr (before_trans k1 k2)
theorem Best.unique {R : Ring} {x y p q : Zw} (h1 : Best R x y p q) (h2 : Best R x y q p) : p = q := by
  unfold Best at *
  rcases h1 with h1 | ⟨h1, k1⟩
  · rcases h2 with h2 | ⟨h2, k2⟩ <;> omega
  · rcases h2 with h2 | ⟨h2, k2⟩
    · omega
    · rcases k1 with rfl | k1
      · rfl
      · rcases k2 with rfl | k2
        · rfl
        · exact (before_asymm k1 k2).elim
theorem nearer_left (R : Ring) (x y p q : Zw) : Best R x y (nearer R x y p q) p := by
  simp only [nearer]
  split
  · next h =>
    rcases h with h | ⟨h1, h2⟩
    · exact .inl h
    · exact .inr ⟨h1, .inr h2⟩
  · exact Best.refl ..
theorem nearer_right (R : Ring) (x y p q : Zw) : Best R x y (nearer R x y p q) q := by
  simp only [nearer]
  split
  · exact Best.refl ..
  · next h =>
    simp only [not_or, Int.not_lt, not_and] at h
    obtain ⟨h1, h2⟩ := h
    by_cases e : norm R (less x (mul R q y)) = norm R (less x (mul R p y))
    · right
      refine ⟨e.symm, ?_⟩
      rcases before_total p q with k | k | k
      · exact .inl k
      · exact .inr k
      · exact absurd k (h2 e)
    · left; omega
theorem fold_best (R : Ring) (x y : Zw) : ∀ (l : List Zw) (p : Zw), Best R x y (l.foldl (nearer R x y) p) p ∧ ∀ q ∈ l, Best R x y (l.foldl (nearer R x y) p) q
  | [], p => ⟨Best.refl .., by simp⟩
  | a :: l, p => by
    obtain ⟨h1, h2⟩ := fold_best R x y l (nearer R x y p a)
    rw [List.foldl_cons]
    refine ⟨h1.trans (nearer_left ..), ?_⟩
    intro q hq
    rcases List.mem_cons.mp hq with rfl | hq
    · exact h1.trans (nearer_right ..)
    · exact h2 q hq
def cands (R : Ring) (x y : Zw) : List Zw :=
  (about (mul R x (mirror R y)).a (norm R y)).flatMap fun (a : Int) => (about (mul R x (mirror R y)).b (norm R y)).map fun (b : Int) => (⟨a, b⟩ : Zw)
theorem mem_about {a n i : Int} : i ∈ about a n ↔ a / n - 1 ≤ i ∧ i ≤ a / n + 2 := by
  simp only [about, List.mem_cons, List.not_mem_nil, or_false]; omega
theorem mem_cands {R : Ring} {x y q : Zw} : q ∈ cands R x y ↔ q.a ∈ about (mul R x (mirror R y)).a (norm R y) ∧ q.b ∈ about (mul R x (mirror R y)).b (norm R y) := by
  simp only [cands, List.mem_flatMap, List.mem_map]
  constructor
  · rintro ⟨a, ha, b, hb, rfl⟩; exact ⟨ha, hb⟩
  · rintro ⟨ha, hb⟩; exact ⟨q.a, ha, q.b, hb, rfl⟩
theorem quot_eq {R : Ring} {x y : Zw} (hy : y ≠ zero) : quot R x y = (cands R x y).foldl (nearer R x y) ⟨(mul R x (mirror R y)).a / norm R y, (mul R x (mirror R y)).b / norm R y⟩ := by
  simp only [quot, if_neg hy]; rfl
theorem near {R : Ring} (h : Ok R) {x y : Zw} (hy : y ≠ zero) : ∃ q ∈ cands R x y, 16 * norm R (less x (mul R q y)) ≤ 15 * norm R y := by
  have hn := norm_pos h hy
  generalize hz : mul R x (mirror R y) = z
  generalize hN : norm R y = n at hn
  have ea := Int.mul_ediv_add_emod z.a n
  have eb := Int.mul_ediv_add_emod z.b n
  have a0 := Int.emod_nonneg z.a (show n ≠ 0 by omega)
  have a1 := Int.emod_lt_of_pos z.a hn
  have b0 := Int.emod_nonneg z.b (show n ≠ 0 by omega)
  have b1 := Int.emod_lt_of_pos z.b hn
  obtain ⟨j, B, hj, hB, hb⟩ : ∃ j B : Int, (j = 0 ∨ j = 1) ∧ z.b - n * (z.b / n + j) = B ∧ -n ≤ 2 * B ∧ 2 * B ≤ n := by
    by_cases k : 2 * (z.b % n) ≤ n
    · exact ⟨0, z.b % n, .inl rfl, by rw [Int.add_zero]; omega, by omega, k⟩
    · exact ⟨1, z.b % n - n, .inr rfl, by rw [Int.mul_add, Int.mul_one]; omega, by omega, by omega⟩
  obtain ⟨i, A, hi, hA, ha⟩ : ∃ i A : Int, (i = 0 ∨ i = 1) ∧ z.a - n * (z.a / n + i) = A ∧ -n ≤ 2 * A + R.t * B ∧ 2 * A + R.t * B ≤ n := by
    have ht : R.t * B = 0 ∨ R.t * B = B := by
      rcases h with ⟨ht, hc⟩ | ⟨ht, hc⟩ | ⟨ht, hc⟩ | ⟨ht, hc⟩ | ⟨ht, hc⟩ <;> rw [ht] <;> omega
    by_cases k : 2 * (z.a % n) + R.t * B ≤ n
    · exact ⟨0, z.a % n, .inl rfl, by rw [Int.add_zero]; omega, by omega, k⟩
    · exact ⟨1, z.a % n - n, .inr rfl, by rw [Int.mul_add, Int.mul_one]; omega, by omega, by omega⟩
  refine ⟨⟨z.a / n + i, z.b / n + j⟩, ?_, ?_⟩
  · rw [mem_cands, hz, hN, mem_about, mem_about]
    dsimp only
    omega
  · have e := rest_norm R x y ⟨z.a / n + i, z.b / n + j⟩
    rw [hz, hN] at e
    dsimp only at e
    rw [hA, hB] at e
    have f := four_norm R ⟨A, B⟩
    dsimp only at f
    rw [← e] at f
    have s1 := sq_le ha.1 ha.2
    have s2 := sq_le hb.1 hb.2
    have e2 : 2 * B * (2 * B) = 4 * (B * B) := by grind
    have n2 := sq_nonneg n
    have key : 16 * (norm R (less x (mul R ⟨z.a / n + i, z.b / n + j⟩ y)) * n) ≤ 15 * (n * n) := by
      rcases h with ⟨ht, hc⟩ | ⟨ht, hc⟩ | ⟨ht, hc⟩ | ⟨ht, hc⟩ | ⟨ht, hc⟩ <;> rw [ht, hc] at f <;> rw [ht] at s1 <;> omega
    have key2 : (16 * norm R (less x (mul R ⟨z.a / n + i, z.b / n + j⟩ y))) * n ≤ (15 * n) * n := by
      rw [Int.mul_assoc, Int.mul_assoc]; exact key
    exact Int.le_of_mul_le_mul_right key2 hn
theorem far {R : Ring} (h : Ok R) {x y q : Zw} (hy : y ≠ zero) (hq : q ∉ cands R x y) : norm R y ≤ norm R (less x (mul R q y)) := by
  have hn := norm_pos h hy
  rw [mem_cands, mem_about, mem_about] at hq
  have e := rest_norm R x y q
  generalize hz : mul R x (mirror R y) = z at hq e
  generalize hN : norm R y = n at hn hq e
  have ea := Int.mul_ediv_add_emod z.a n
  have eb := Int.mul_ediv_add_emod z.b n
  have a0 := Int.emod_nonneg z.a (show n ≠ 0 by omega)
  have a1 := Int.emod_lt_of_pos z.a hn
  have b0 := Int.emod_nonneg z.b (show n ≠ 0 by omega)
  have b1 := Int.emod_lt_of_pos z.b hn
  -- a part that lies 2 n away
  have part : ∀ v p : Int, n * (v / n) + v % n = v → 0 ≤ v % n → v % n < n → ¬(v / n - 1 ≤ p ∧ p ≤ v / n + 2) → 2 * n ≤ v - n * p ∨ v - n * p ≤ -(2 * n) := by
    intro v p ev v0 v1 hp
    rcases (show p ≤ v / n - 2 ∨ v / n + 3 ≤ p by omega) with k | k
    · left
      have := Int.mul_le_mul_of_nonneg_left k (show 0 ≤ n by omega)
      rw [Int.mul_sub] at this
      omega
    · right
      have := Int.mul_le_mul_of_nonneg_left k (show 0 ≤ n by omega)
      rw [Int.mul_add] at this
      omega
  have key : n * n ≤ norm R (less x (mul R q y)) * n := by
    rw [e]
    by_cases k : z.a / n - 1 ≤ q.a ∧ q.a ≤ z.a / n + 2
    · have k2 : ¬(z.b / n - 1 ≤ q.b ∧ q.b ≤ z.b / n + 2) := fun k2 => hq ⟨k, k2⟩
      have p := sq_ge (show 0 ≤ 2 * n by omega) (part z.b q.b eb b0 b1 k2)
      have f := four_norm R ⟨z.a - n * q.a, z.b - n * q.b⟩
      have s := sq_nonneg (2 * (z.a - n * q.a) + R.t * (z.b - n * q.b))
      dsimp only at f
      have e2 : 2 * n * (2 * n) = 4 * (n * n) := by grind
      have := sq_nonneg n
      rcases h with ⟨ht, hc⟩ | ⟨ht, hc⟩ | ⟨ht, hc⟩ | ⟨ht, hc⟩ | ⟨ht, hc⟩ <;> rw [ht, hc] at f <;> rw [ht] at s <;> omega
    · have p := sq_ge (show 0 ≤ 2 * n by omega) (part z.a q.a ea a0 a1 k)
      have f := four_norm' R ⟨z.a - n * q.a, z.b - n * q.b⟩
      have s := sq_nonneg (2 * R.c * (z.b - n * q.b) + R.t * (z.a - n * q.a))
      dsimp only at f
      have e2 : 2 * n * (2 * n) = 4 * (n * n) := by grind
      have := sq_nonneg n
      rcases h with ⟨ht, hc⟩ | ⟨ht, hc⟩ | ⟨ht, hc⟩ | ⟨ht, hc⟩ | ⟨ht, hc⟩ <;> rw [ht, hc] at f <;> rw [ht, hc] at s <;> omega
  exact Int.le_of_mul_le_mul_right key hn
theorem quot_best {R : Ring} (h : Ok R) {x y : Zw} (hy : y ≠ zero) (q : Zw) : Best R x y (quot R x y) q := by
  rw [quot_eq hy]
  have F := fold_best R x y (cands R x y) ⟨(mul R x (mirror R y)).a / norm R y, (mul R x (mirror R y)).b / norm R y⟩
  by_cases k : q ∈ cands R x y
  · exact F.2 q k
  · obtain ⟨p, hp, np⟩ := near h (x := x) hy
    have hn := norm_pos h hy
    have hf := far h hy k
    exact (F.2 p hp).trans (.inl (by omega))
theorem quot_unique {R : Ring} (h : Ok R) {x y p : Zw} (hy : y ≠ zero) (hp : ∀ q, Best R x y p q) : p = quot R x y :=
  Best.unique (hp _) (quot_best h hy _)
theorem rest_norm_le {R : Ring} (h : Ok R) {x y : Zw} (hy : y ≠ zero) : 16 * norm R (rest R x y) ≤ 15 * norm R y := by
  obtain ⟨p, hp, np⟩ := near h (x := x) hy
  have := quot_best h (x := x) hy p
  unfold rest
  unfold Best at this
  omega
theorem rest_norm_lt {R : Ring} (h : Ok R) {x y : Zw} (hy : y ≠ zero) : norm R (rest R x y) < norm R y := by
  have := rest_norm_le h (x := x) hy
  have := norm_pos h hy
  have := norm_nonneg h (rest R x y)
  omega
end Rf
set_option linter.unusedVariables false
namespace Rf
open Rg
def Corner (R : Ring) (x y q : Zw) : Prop :=
  (q.a = (mul R x (mirror R y)).a / norm R y ∨ q.a = (mul R x (mirror R y)).a / norm R y + 1) ∧
  (q.b = (mul R x (mirror R y)).b / norm R y ∨ q.b = (mul R x (mirror R y)).b / norm R y + 1)
theorem sq_lt {a b : Int} (h1 : -b < a) (h2 : a < b) : a * a < b * b := by
  have := Int.mul_pos (show 0 < b - a by omega) (show 0 < b + a by omega)
  have e : (b - a) * (b + a) = b * b - a * a := by grind
  omega
theorem less_of {R : Ring} {x y p q : Zw} (hn : 0 < norm R y)
    (k : norm R ⟨(mul R x (mirror R y)).a - norm R y * p.a, (mul R x (mirror R y)).b - norm R y * p.b⟩ < norm R ⟨(mul R x (mirror R y)).a - norm R y * q.a, (mul R x (mirror R y)).b - norm R y * q.b⟩) : Best R x y p q := by
  rw [← rest_norm, ← rest_norm] at k
  exact .inl (Int.lt_of_mul_lt_mul_right k (Int.le_of_lt hn))
theorem corner_near {R : Ring} (h : Ok R) {n a b : Int} (hn : 0 < n) : ∃ i j : Int, (i = 0 ∨ i = 1) ∧ (j = 0 ∨ j = 1) ∧
    4 * norm R ⟨a - n * (a / n + i), b - n * (b / n + j)⟩ < (4 * R.c - R.t * R.t) * (n * n) := by
  have ea := Int.mul_ediv_add_emod a n
  have eb := Int.mul_ediv_add_emod b n
  have a0 := Int.emod_nonneg a (show n ≠ 0 by omega)
  have a1 := Int.emod_lt_of_pos a hn
  have b0 := Int.emod_nonneg b (show n ≠ 0 by omega)
  have b1 := Int.emod_lt_of_pos b hn
  obtain ⟨j, B, hj, hB, hb⟩ : ∃ j B : Int, (j = 0 ∨ j = 1) ∧ b - n * (b / n + j) = B ∧ -n ≤ 2 * B ∧ 2 * B ≤ n := by
    by_cases k : 2 * (b % n) ≤ n
    · exact ⟨0, b % n, .inl rfl, by rw [Int.add_zero]; omega, by omega, k⟩
    · exact ⟨1, b % n - n, .inr rfl, by rw [Int.mul_add, Int.mul_one]; omega, by omega, by omega⟩
  obtain ⟨i, A, hi, hA, ha⟩ : ∃ i A : Int, (i = 0 ∨ i = 1) ∧ a - n * (a / n + i) = A ∧ -n ≤ 2 * A + R.t * B ∧ 2 * A + R.t * B ≤ n := by
    have ht : R.t * B = 0 ∨ R.t * B = B := by
      rcases h with ⟨ht, hc⟩ | ⟨ht, hc⟩ | ⟨ht, hc⟩ | ⟨ht, hc⟩ | ⟨ht, hc⟩ <;> rw [ht] <;> omega
    by_cases k : 2 * (a % n) + R.t * B ≤ n
    · exact ⟨0, a % n, .inl rfl, by rw [Int.add_zero]; omega, by omega, k⟩
    · exact ⟨1, a % n - n, .inr rfl, by rw [Int.mul_add, Int.mul_one]; omega, by omega, by omega⟩
  refine ⟨i, j, hi, hj, ?_⟩
  rw [hA, hB, four_norm]
  dsimp only
  have s1 := sq_le ha.1 ha.2
  have s2 := sq_le hb.1 hb.2
  have e2 : 2 * B * (2 * B) = 4 * (B * B) := by grind
  have n2 := Int.mul_pos hn hn
  rcases h with ⟨ht, hc⟩ | ⟨ht, hc⟩ | ⟨ht, hc⟩ | ⟨ht, hc⟩ | ⟨ht, hc⟩ <;> rw [ht, hc] <;> rw [ht] at s1 <;> omega
theorem far_b {R : Ring} (h : Ok R) {n a b p q : Int} (hn : 0 < n) (k : q < b / n ∨ b / n + 1 < q) :
    (4 * R.c - R.t * R.t) * (n * n) ≤ 4 * norm R ⟨a - n * p, b - n * q⟩ := by
  have eb := Int.mul_ediv_add_emod b n
  have b0 := Int.emod_nonneg b (show n ≠ 0 by omega)
  have b1 := Int.emod_lt_of_pos b hn
  have key : n ≤ b - n * q ∨ b - n * q ≤ -n := by
    rcases k with k | k
    · left
      have := Int.mul_le_mul_of_nonneg_left (show q ≤ b / n - 1 by omega) (show 0 ≤ n by omega)
      rw [Int.mul_sub] at this
      omega
    · right
      have := Int.mul_le_mul_of_nonneg_left (show b / n + 2 ≤ q by omega) (show 0 ≤ n by omega)
      rw [Int.mul_add] at this
      omega
  have s := sq_ge (Int.le_of_lt hn) key
  rw [four_norm]
  dsimp only
  have t := sq_nonneg (2 * (a - n * p) + R.t * (b - n * q))
  rcases h with ⟨ht, hc⟩ | ⟨ht, hc⟩ | ⟨ht, hc⟩ | ⟨ht, hc⟩ | ⟨ht, hc⟩ <;> rw [ht, hc] <;> rw [ht] at t <;> omega
theorem corner {R : Ring} (h : Ok R) {x y : Zw} (hy : y ≠ zero) (q : Zw) : ∃ p, Corner R x y p ∧ Best R x y p q := by
  have hn := norm_pos h hy
  unfold Corner
  have L := @less_of R x y
  generalize hz : mul R x (mirror R y) = z at L
  generalize hN : norm R y = n at hn L
  by_cases kb : q.b = z.b / n ∨ q.b = z.b / n + 1
  · by_cases ka : q.a = z.a / n ∨ q.a = z.a / n + 1
    · exact ⟨q, ⟨ka, kb⟩, Best.refl ..⟩
    · have ea := Int.mul_ediv_add_emod z.a n
      have eb := Int.mul_ediv_add_emod z.b n
      have a0 := Int.emod_nonneg z.a (show n ≠ 0 by omega)
      have a1 := Int.emod_lt_of_pos z.a hn
      have b0 := Int.emod_nonneg z.b (show n ≠ 0 by omega)
      have b1 := Int.emod_lt_of_pos z.b hn
      -- b's part stands: only 2 A + t B moves
      obtain ⟨B, hB, hb⟩ : ∃ B : Int, z.b - n * q.b = B ∧ (0 ≤ B ∧ B < n ∨ -n ≤ B ∧ B < 0) := by
        rcases kb with k | k <;> rw [k]
        · exact ⟨z.b % n, by omega, .inl ⟨b0, b1⟩⟩
        · exact ⟨z.b % n - n, by rw [Int.mul_add, Int.mul_one]; omega, .inr (by omega)⟩
      have ht : R.t * B = 0 ∨ R.t * B = B := by
        rcases h with ⟨ht, hc⟩ | ⟨ht, hc⟩ | ⟨ht, hc⟩ | ⟨ht, hc⟩ | ⟨ht, hc⟩ <;> rw [ht] <;> omega
      -- a corner on the same row whose 2 A + t B is nearer to 0
      have go : ∀ i A' : Int, (i = 0 ∨ i = 1) → z.a - n * (z.a / n + i) = A' → -(2 * (z.a - n * q.a) + R.t * B) < 2 * A' + R.t * B ∧ 2 * A' + R.t * B < 2 * (z.a - n * q.a) + R.t * B ∨ (2 * (z.a - n * q.a) + R.t * B) < 2 * A' + R.t * B ∧ 2 * A' + R.t * B < -(2 * (z.a - n * q.a) + R.t * B) →
          ∃ p : Zw, ((p.a = z.a / n ∨ p.a = z.a / n + 1) ∧ (p.b = z.b / n ∨ p.b = z.b / n + 1)) ∧ Best R x y p q := by
        intro i A' hi hA hs
        refine ⟨⟨z.a / n + i, q.b⟩, ⟨by dsimp only; omega, kb⟩, L hn ?_⟩
        dsimp only
        rw [hA, hB]
        have f1 := four_norm R ⟨A', B⟩
        have f2 := four_norm R ⟨z.a - n * q.a, B⟩
        dsimp only at f1 f2
        have : (2 * A' + R.t * B) * (2 * A' + R.t * B) < (2 * (z.a - n * q.a) + R.t * B) * (2 * (z.a - n * q.a) + R.t * B) := by
          rcases hs with hs | hs
          · exact sq_lt hs.1 hs.2
          · have := sq_lt (a := 2 * A' + R.t * B) (b := -(2 * (z.a - n * q.a) + R.t * B)) (by omega) hs.2
            rwa [Int.neg_mul_neg] at this
        omega
      rcases (show q.a ≤ z.a / n - 1 ∨ z.a / n + 2 ≤ q.a by omega) with k | k
      · have u := Int.mul_le_mul_of_nonneg_left k (show 0 ≤ n by omega)
        rw [Int.mul_sub, Int.mul_one] at u
        by_cases e0 : z.a % n = 0 ∧ z.b % n = 0
        · -- it divides: the rest is 0
          have hne : ¬(z.a - n * q.a = 0) := by omega
          refine ⟨⟨z.a / n, z.b / n⟩, ⟨.inl rfl, .inl rfl⟩, L hn ?_⟩
          dsimp only
          rw [show z.a - n * (z.a / n) = 0 by omega, show z.b - n * (z.b / n) = 0 by omega]
          have : (⟨0, 0⟩ : Zw) = zero := rfl
          rw [this, norm_zero]
          exact norm_pos h (fun e => hne (congrArg Zw.a e))
        · refine go 0 (z.a % n) (.inl rfl) (by rw [Int.add_zero]; omega) (.inl ⟨?_, ?_⟩)
          · rcases hb with hb | hb
            · omega
            · -- B = z.b % n - n
              have : B = z.b % n - n := by
                rcases kb with kb | kb <;> rw [kb] at hB
                · omega
                · rw [Int.mul_add, Int.mul_one] at hB; omega
              omega
          · omega
      · have u := Int.mul_le_mul_of_nonneg_left k (show 0 ≤ n by omega)
        rw [Int.mul_add] at u
        refine go 1 (z.a % n - n) (.inr rfl) (by rw [Int.mul_add, Int.mul_one]; omega) (.inr ⟨?_, ?_⟩)
        · omega
        · omega
  · obtain ⟨i, j, hi, hj, hs⟩ := corner_near h (a := z.a) (b := z.b) hn
    have hf := far_b h (a := z.a) (b := z.b) (p := q.a) (q := q.b) hn (by omega)
    refine ⟨⟨z.a / n + i, z.b / n + j⟩, ⟨by dsimp only; omega, by dsimp only; omega⟩, L hn ?_⟩
    dsimp only
    omega
end Rf
set_option linter.unusedVariables false
namespace Rf
open Rg
def rowLow (R : Ring) (x y : Zw) (b : Int) : Int := (2 * (mul R x (mirror R y)).a + R.t * ((mul R x (mirror R y)).b - b * norm R y)) / (2 * norm R y)
theorem row_best {R : Ring} (h : Ok R) {x y : Zw} (hy : y ≠ zero) (q : Zw) : ∃ p : Zw, (p.a = rowLow R x y q.b ∨ p.a = rowLow R x y q.b + 1) ∧ p.b = q.b ∧ Best R x y p q := by
  have hn := norm_pos h hy
  have key : ∀ p : Zw, p.b = q.b → p.a ≠ q.a → (2 * ((mul R x (mirror R y)).a - norm R y * p.a) + R.t * ((mul R x (mirror R y)).b - norm R y * q.b)) * (2 * ((mul R x (mirror R y)).a - norm R y * p.a) + R.t * ((mul R x (mirror R y)).b - norm R y * q.b)) <
      (2 * ((mul R x (mirror R y)).a - norm R y * q.a) + R.t * ((mul R x (mirror R y)).b - norm R y * q.b)) * (2 * ((mul R x (mirror R y)).a - norm R y * q.a) + R.t * ((mul R x (mirror R y)).b - norm R y * q.b)) → Best R x y p q := fun p hb _ hs => by
    refine less_of hn ?_
    rw [hb]
    have f1 := four_norm R ⟨(mul R x (mirror R y)).a - norm R y * p.a, (mul R x (mirror R y)).b - norm R y * q.b⟩
    have f2 := four_norm R ⟨(mul R x (mirror R y)).a - norm R y * q.a, (mul R x (mirror R y)).b - norm R y * q.b⟩
    dsimp only at f1 f2
    omega
  unfold rowLow
  generalize hz : mul R x (mirror R y) = z at key
  generalize hN : norm R y = n at key hn
  have eM := Int.mul_ediv_add_emod (2 * z.a + R.t * (z.b - q.b * n)) (2 * n)
  have m0 := Int.emod_nonneg (2 * z.a + R.t * (z.b - q.b * n)) (show 2 * n ≠ 0 by omega)
  have m1 := Int.emod_lt_of_pos (2 * z.a + R.t * (z.b - q.b * n)) (show 0 < 2 * n by omega)
  have eB : z.b - n * q.b = z.b - q.b * n := by rw [Int.mul_comm]
  rw [eB] at key
  generalize hlo : (2 * z.a + R.t * (z.b - q.b * n)) / (2 * n) = lo at eM
  generalize (2 * z.a + R.t * (z.b - q.b * n)) % (2 * n) = m at eM m0 m1
  generalize R.t * (z.b - q.b * n) = T at eM key hlo
  have ef : ∀ a : Int, 2 * (z.a - n * a) + T = m + 2 * (n * (lo - a)) := fun a => by
    have e1 : 2 * n * lo = 2 * (n * lo) := Int.mul_assoc ..
    have e2 : n * (lo - a) = n * lo - n * a := Int.mul_sub ..
    omega
  by_cases k : q.a ≤ lo
  · by_cases e : q.a = lo
    · exact ⟨q, .inl e, rfl, Best.refl ..⟩
    · refine ⟨⟨lo, q.b⟩, .inl rfl, rfl, key _ rfl (fun z => e z.symm) ?_⟩
      dsimp only
      rw [ef, ef, Int.sub_self, Int.mul_zero]
      have : n * 1 ≤ n * (lo - q.a) := Int.mul_le_mul_of_nonneg_left (by omega) (by omega)
      exact sq_lt (by omega) (by omega)
  · by_cases e : q.a = lo + 1
    · exact ⟨q, .inr e, rfl, Best.refl ..⟩
    · refine ⟨⟨lo + 1, q.b⟩, .inr rfl, rfl, key _ rfl (fun z => e z.symm) ?_⟩
      dsimp only
      rw [ef, ef]
      have e1 : n * (lo - (lo + 1)) = -n := by
        rw [show lo - (lo + 1) = -1 by omega]
        omega
      have e2 : n * (q.a - lo) ≥ n * 2 := Int.mul_le_mul_of_nonneg_left (by omega) (by omega)
      have e3 : n * (lo - q.a) = -(n * (q.a - lo)) := by rw [← Int.mul_neg, Int.neg_sub]
      rw [e1, e3]
      have := sq_lt (a := -(m + 2 * -n)) (b := -(m + 2 * -(n * (q.a - lo)))) (by omega) (by omega)
      rwa [Int.neg_mul_neg, Int.neg_mul_neg] at this
theorem quot_of_rows {R : Ring} (h : Ok R) {x y p : Zw} (hy : y ≠ zero) (hp : ∀ a b : Int, (b = (mul R x (mirror R y)).b / norm R y ∨ b = (mul R x (mirror R y)).b / norm R y + 1) → (a = rowLow R x y b ∨ a = rowLow R x y b + 1) → Best R x y p ⟨a, b⟩) : p = quot R x y := by
  refine quot_unique h hy fun q => ?_
  obtain ⟨c, hc, hb⟩ := corner h (x := x) hy q
  obtain ⟨c', h1, h2, h3⟩ := row_best h (x := x) hy c
  refine ((hp c'.a c'.b (by rw [h2]; exact hc.2) (by rw [h2]; exact h1)).trans h3).trans hb
end Rf
set_option linter.unusedVariables false
namespace Rf
open Rg
def Ends (R : Ring) : Nat → Made → Made → Prop
  | 0, _, n => n.d = zero
  | f + 1, m, n => n.d = zero ∨ Ends R f n (m.less R n (quot R m.d n.d))
theorem Ends.mono {R : Ring} : ∀ {f g : Nat} {m n : Made}, Ends R f m n → f ≤ g → Ends R g m n
  | 0, 0, _, _, h, _ => h
  | 0, g + 1, _, _, h, _ => .inl h
  | f + 1, 0, _, _, h, k => by omega
  | f + 1, g + 1, m, n, h, k => by
    rcases h with h | h
    · exact .inl h
    · exact .inr (Ends.mono h (by omega))
theorem chain_ends {R : Ring} : ∀ {f g : Nat} {m n : Made}, Ends R f m n → f ≤ g → chain R g m n = chain R f m n
  | 0, 0, _, _, h, _ => rfl
  | 0, g + 1, m, n, h, _ => by
    have h : n.d = zero := h
    simp only [chain, if_pos h]
  | f + 1, 0, _, _, h, k => by omega
  | f + 1, g + 1, m, n, h, k => by
    by_cases e : n.d = zero
    · simp only [chain, if_pos e]
    · simp only [chain, if_neg e]
      rcases h with h | h
      · exact absurd h e
      · exact chain_ends h (by omega)
theorem chain_two {R : Ring} {f g : Nat} {m n : Made} (h1 : Ends R f m n) (h2 : Ends R g m n) : chain R f m n = chain R g m n := by
  rcases Nat.le_total f g with k | k
  · exact (chain_ends h1 k).symm
  · exact chain_ends h2 k
theorem less_d (R : Ring) (m n : Made) : (m.less R n (quot R m.d n.d)).d = rest R m.d n.d := rfl
theorem ends_norm {R : Ring} (h : Ok R) : ∀ (f : Nat) (m n : Made), norm R n.d < (f : Int) → Ends R f m n
  | 0, m, n, k => by
    have := norm_nonneg h n.d
    omega
  | f + 1, m, n, k => by
    by_cases e : n.d = zero
    · exact .inl e
    · right
      refine ends_norm h f _ _ ?_
      rw [less_d]
      have := rest_norm_lt h (x := m.d) e
      omega
theorem ends_pow {R : Ring} (h : Ok R) : ∀ (f : Nat) (m n : Made), 15 ^ f * norm R n.d < 16 ^ f → Ends R f m n
  | 0, m, n, k => by
    have := norm_nonneg h n.d
    exact norm_eq_zero h (by omega)
  | f + 1, m, n, k => by
    by_cases e : n.d = zero
    · exact .inl e
    · right
      refine ends_pow h f _ _ ?_
      rw [less_d]
      have h1 := rest_norm_le h (x := m.d) e
      rw [Int.pow_succ, Int.pow_succ, Int.mul_assoc] at k
      have h2 := Int.mul_le_mul_of_nonneg_left h1 (Int.le_of_lt (Int.pow_pos (n := 15) (m := f) (by decide)))
      have e1 : (15 : Int) ^ f * (16 * norm R (rest R m.d n.d)) = 16 * (15 ^ f * norm R (rest R m.d n.d)) := by grind
      omega
def run (R : Ring) (m n : Made) : Made := chain R ((norm R n.d).toNat + 1) m n
theorem run_eq {R : Ring} (h : Ok R) {f : Nat} {m n : Made} (k : Ends R f m n) : chain R f m n = run R m n :=
  chain_two k (ends_norm h _ _ _ (by have := norm_nonneg h n.d; omega))
theorem run_zero {R : Ring} (m n : Made) (e : n.d = zero) : run R m n = m := by
  simp only [run, chain, if_pos e]
theorem run_step {R : Ring} (h : Ok R) (m n : Made) (e : n.d ≠ zero) : run R m n = run R n (m.less R n (quot R m.d n.d)) := by
  have h1 : run R m n = chain R (norm R n.d).toNat n (m.less R n (quot R m.d n.d)) := by
    simp only [run, chain, if_neg e]
  rw [h1]
  refine run_eq h (ends_norm h _ _ _ ?_)
  rw [less_d]
  have := rest_norm_lt h (x := m.d) e
  have := norm_pos h e
  omega
theorem pow_bits : ∀ (L : Nat), (15 : Int) ^ (16 * (L + 1) + 7) * 2 ^ (L + 2) ≤ 16 ^ (16 * (L + 1) + 7)
  | 0 => by decide
  | L + 1 => by
    have h := pow_bits L
    have e1 : (15 : Int) ^ (16 * (L + 1 + 1) + 7) = 15 ^ (16 * (L + 1) + 7) * 15 ^ 16 := by rw [← Int.pow_add, show 16 * (L + 1 + 1) + 7 = 16 * (L + 1) + 7 + 16 by omega]
    have e2 : (16 : Int) ^ (16 * (L + 1 + 1) + 7) = 16 ^ (16 * (L + 1) + 7) * 16 ^ 16 := by rw [← Int.pow_add, show 16 * (L + 1 + 1) + 7 = 16 * (L + 1) + 7 + 16 by omega]
    have e0 : (2 : Int) ^ (L + 1 + 2) = 2 ^ (L + 2) * 2 := by rw [show L + 1 + 2 = (L + 2) + 1 by omega, Int.pow_succ]
    rw [e1, e2, e0]
    clear e0 e1 e2
    have p := Int.pow_pos (n := 16) (m := 16 * (L + 1) + 7) (by decide)
    generalize (15 : Int) ^ (16 * (L + 1) + 7) = u at *
    generalize (16 : Int) ^ (16 * (L + 1) + 7) = v at *
    generalize (2 : Int) ^ (L + 2) = w at *
    have e3 : u * 15 ^ 16 * (w * 2) = (u * w) * (15 ^ 16 * 2) := by grind
    rw [e3]
    generalize u * w = s at *
    omega
theorem log_enough (N : Nat) (f : Nat) (hf : 16 * N.log2 + 7 ≤ f) : (15 : Int) ^ f * (N : Int) < 16 ^ f := by
  obtain ⟨g, rfl⟩ : ∃ g, f = 16 * N.log2 + 7 + g := ⟨f - (16 * N.log2 + 7), by omega⟩
  have base : (15 : Int) ^ (16 * N.log2 + 7) * (N : Int) < 16 ^ (16 * N.log2 + 7) := by
    by_cases h0 : N = 0
    · subst h0
      rw [Int.ofNat_zero, Int.mul_zero]
      exact Int.pow_pos (by decide)
    · have hlt : N < 2 ^ (N.log2 + 1) := Nat.lt_log2_self
      generalize N.log2 = L at hlt ⊢
      cases L with
      | zero =>
        have : N = 1 := by omega
        subst this
        decide
      | succ L =>
        have h := pow_bits L
        have p := Int.pow_pos (n := 15) (m := 16 * (L + 1) + 7) (by decide)
        have k : (N : Int) < 2 ^ (L + 2) := by
          have : ((2 ^ (L + 1 + 1) : Nat) : Int) = 2 ^ (L + 2) := by push_cast; rfl
          omega
        have := Int.mul_lt_mul_of_pos_left k p
        omega
  rw [Int.pow_add 15 (16 * N.log2 + 7) g, Int.pow_add 16 (16 * N.log2 + 7) g]
  have p := Int.pow_pos (n := 15) (m := g) (by decide)
  have q : (15 : Int) ^ g ≤ 16 ^ g := by
    have := Nat.pow_le_pow_left (show 15 ≤ 16 by decide) g
    exact_mod_cast this
  have q2 := Int.pow_pos (n := 16) (m := 16 * N.log2 + 7) (by decide)
  generalize (15 : Int) ^ (16 * N.log2 + 7) = u at *
  generalize (16 : Int) ^ (16 * N.log2 + 7) = v at *
  have a := Int.mul_lt_mul_of_pos_left base p
  have b := Int.mul_le_mul_of_nonneg_right q (Int.le_of_lt q2)
  have e1 : u * 15 ^ g * (N : Int) = 15 ^ g * (u * (N : Int)) := by grind
  have e2 : v * 16 ^ g = 16 ^ g * v := Int.mul_comm ..
  omega
theorem log2_mono {a b : Nat} (h : a ≤ b) : a.log2 ≤ b.log2 := by
  by_cases ha : a = 0
  · subst ha; simp
  · have hb : b ≠ 0 := by omega
    rw [Nat.le_log2 hb]
    exact Nat.le_trans (Nat.log2_self_le ha) h
theorem steps_enough {R : Ring} (h : Ok R) (x y u v u' v' : Zw) : Ends R (stepsFor R x y) ⟨x, u, v⟩ ⟨y, u', v'⟩ := by
  have nx := norm_nonneg h x
  have ny := norm_nonneg h y
  simp only [stepsFor]
  by_cases k : norm R y ≤ norm R x
  · refine ends_pow h _ _ _ ?_
    have := log2_mono (show (norm R y).natAbs ≤ (norm R x).natAbs by omega)
    have := log_enough (norm R y).natAbs (8 * ((norm R x).natAbs.log2 + (norm R y).natAbs.log2) + 8) (by omega)
    have e : (((norm R y).natAbs : Nat) : Int) = norm R y := by omega
    rw [e] at this
    exact this
  · by_cases e : y = zero
    · exact Ends.mono (f := 0) e (by omega)
    · right
      refine ends_pow h _ _ _ ?_
      rw [less_d]
      dsimp only
      have b := quot_best h (x := x) e zero
      have c : norm R (rest R x y) ≤ norm R x := by
        have e0 : less x (mul R zero y) = x := by
          rw [zero_mul]; cases x; simp [less, zero]
        unfold Best at b
        rw [e0] at b
        unfold rest
        omega
      have nr := norm_nonneg h (rest R x y)
      have := log2_mono (show (norm R (rest R x y)).natAbs ≤ (norm R x).natAbs by omega)
      have := log2_mono (show (norm R x).natAbs ≤ (norm R y).natAbs by omega)
      have := log_enough (norm R (rest R x y)).natAbs (8 * ((norm R x).natAbs.log2 + (norm R y).natAbs.log2) + 7) (by omega)
      have e : (((norm R (rest R x y)).natAbs : Nat) : Int) = norm R (rest R x y) := by omega
      rw [e] at this
      exact this
theorem gcd_run {R : Ring} (h : Ok R) (x y : Zw) : gcd R x y = let m := run R ⟨x, one, zero⟩ ⟨y, zero, one⟩
    m.times R (pow R (unit1 R) (formBy R m.d)) := by
  simp only [gcd]
  rw [run_eq h (steps_enough h x y _ _ _ _)]
end Rf
set_option linter.unusedVariables false
namespace Rf
open Rg
theorem Ok.cases {R : Ring} (h : Ok R) : R = ⟨0, 1⟩ ∨ R = ⟨0, 2⟩ ∨ R = ⟨1, 1⟩ ∨ R = ⟨1, 2⟩ ∨ R = ⟨1, 3⟩ := by
  cases R with | mk t c => simpa [Ok] using h
theorem unit_parts {R : Ring} (h : Ok R) {u : Zw} (hu : norm R u = 1) : -1 ≤ u.a ∧ u.a ≤ 1 ∧ -1 ≤ u.b ∧ u.b ≤ 1 := by
  have f := four_norm R u
  have g := four_norm' R u
  have s1 := sq_nonneg (2 * u.a + R.t * u.b)
  have s2 := sq_nonneg (2 * R.c * u.b + R.t * u.a)
  have small : ∀ v : Int, v * v < 4 → -1 ≤ v ∧ v ≤ 1 := by
    intro v hv
    constructor
    · apply Int.not_lt.mp
      intro k
      have := sq_ge (show 0 ≤ 2 by decide) (.inr (show v ≤ -2 by omega))
      omega
    · apply Int.not_lt.mp
      intro k
      have := sq_ge (show 0 ≤ 2 by decide) (.inl (show 2 ≤ v by omega))
      omega
  have hb : u.b * u.b < 4 := by
    rcases h with ⟨ht, hc⟩ | ⟨ht, hc⟩ | ⟨ht, hc⟩ | ⟨ht, hc⟩ | ⟨ht, hc⟩ <;> rw [ht, hc] at f <;> rw [ht] at s1 <;> omega
  have ha : u.a * u.a < 4 := by
    rcases h with ⟨ht, hc⟩ | ⟨ht, hc⟩ | ⟨ht, hc⟩ | ⟨ht, hc⟩ | ⟨ht, hc⟩ <;> rw [ht, hc] at g <;> rw [ht, hc] at s2 <;> omega
  exact ⟨(small _ ha).1, (small _ ha).2, (small _ hb).1, (small _ hb).2⟩
theorem mem_units {R : Ring} (h : Ok R) {u : Zw} : u ∈ units R ↔ norm R u = 1 := by
  constructor
  · intro hu
    have all : (units R).all (fun u => decide (norm R u = 1)) = true := by
      rcases h.cases with rfl | rfl | rfl | rfl | rfl <;> decide
    have := List.all_eq_true.mp all u hu
    simpa using this
  · intro hu
    obtain ⟨a0, a1, b0, b1⟩ := unit_parts h hu
    cases u with | mk a b =>
    dsimp only at a0 a1 b0 b1
    obtain rfl | rfl | rfl : a = -1 ∨ a = 0 ∨ a = 1 := by omega
    all_goals obtain rfl | rfl | rfl : b = -1 ∨ b = 0 ∨ b = 1 := by omega
    all_goals (revert hu; rcases h.cases with rfl | rfl | rfl | rfl | rfl <;> decide)
theorem later_cases (x y : Zw) : later x y = x ∨ later x y = y := by
  unfold later; split <;> simp
theorem later_left (x y : Zw) : later x y = x ∨ before x (later x y) = true := by
  unfold later; split
  · right; assumption
  · left; rfl
theorem later_right (x y : Zw) : later x y = y ∨ before y (later x y) = true := by
  unfold later; split
  · left; rfl
  · rcases before_total x y with k | k | k
    · exact .inl k
    · contradiction
    · exact .inr k
def Upto (x y : Zw) : Prop := x = y ∨ before x y = true
theorem Upto.trans {x y z : Zw} (h1 : Upto x y) (h2 : Upto y z) : Upto x z := by
  rcases h1 with rfl | h1
  · exact h2
  · rcases h2 with rfl | h2
    · exact .inr h1
    · exact .inr (before_trans h1 h2)
theorem Upto.anti {x y : Zw} (h1 : Upto x y) (h2 : Upto y x) : x = y := by
  rcases h1 with rfl | h1
  · rfl
  · rcases h2 with rfl | h2
    · rfl
    · exact (before_asymm h1 h2).elim
theorem fold_later : ∀ (l : List Zw) (x : Zw), (l.foldl later x = x ∨ l.foldl later x ∈ l) ∧ Upto x (l.foldl later x) ∧ ∀ y ∈ l, Upto y (l.foldl later x)
  | [], x => ⟨.inl rfl, .inl rfl, by simp⟩
  | a :: l, x => by
    obtain ⟨h1, h2, h3⟩ := fold_later l (later x a)
    rw [List.foldl_cons]
    have l1 : Upto x (later x a) := by rcases later_left x a with k | k; exact .inl k.symm; exact .inr k
    have l2 : Upto a (later x a) := by rcases later_right x a with k | k; exact .inl k.symm; exact .inr k
    refine ⟨?_, l1.trans h2, ?_⟩
    · rcases h1 with h1 | h1
      · rw [h1]
        rcases later_cases x a with k | k <;> rw [k]
        · exact .inl rfl
        · exact .inr (List.mem_cons_self ..)
      · exact .inr (List.mem_cons_of_mem _ h1)
    · intro y hy
      rcases List.mem_cons.mp hy with rfl | hy
      · exact l2.trans h2
      · exact h3 y hy
theorem form_is {R : Ring} (h : Ok R) (x : Zw) : ∃ u, norm R u = 1 ∧ form R x = mul R x u := by
  obtain ⟨h1, h2, h3⟩ := fold_later ((units R).map (mul R x)) x
  rcases h1 with h1 | h1
  · exact ⟨one, by simp [norm, one], by rw [mul_one]; exact h1⟩
  · obtain ⟨u, hu, e⟩ := List.mem_map.mp h1
    exact ⟨u, (mem_units h).mp hu, e.symm⟩
theorem form_last {R : Ring} (h : Ok R) (x : Zw) {u : Zw} (hu : norm R u = 1) : Upto (mul R x u) (form R x) :=
  (fold_later ((units R).map (mul R x)) x).2.2 _ (List.mem_map.mpr ⟨u, (mem_units h).mpr hu, rfl⟩)
theorem form_unique {R : Ring} (h : Ok R) {x z : Zw} (hz : ∃ u, norm R u = 1 ∧ z = mul R x u) (hl : ∀ u, norm R u = 1 → Upto (mul R x u) z) : z = form R x := by
  obtain ⟨u, hu, e⟩ := hz
  obtain ⟨v, hv, e'⟩ := form_is h x
  refine Upto.anti ?_ ?_
  · rw [e]; exact form_last h x hu
  · rw [e']; exact hl v hv
theorem unit_mul {R : Ring} {u v : Zw} (hu : norm R u = 1) (hv : norm R v = 1) : norm R (mul R u v) = 1 := by
  rw [norm_mul, hu, hv]; rfl
theorem unit_mirror {R : Ring} {u : Zw} (hu : norm R u = 1) : mul R u (mirror R u) = one := by
  rw [mul_mirror, hu]; rfl
theorem form_times {R : Ring} (h : Ok R) (x : Zw) {v : Zw} (hv : norm R v = 1) : form R (mul R x v) = form R x := by
  refine form_unique h ?_ ?_
  · obtain ⟨u, hu, e⟩ := form_is h (mul R x v)
    exact ⟨mul R v u, unit_mul hv hu, by rw [e, mul_assoc]⟩
  · intro u hu
    have k := form_last h (mul R x v) (u := mul R (mirror R v) u) (unit_mul (by rw [norm_mirror]; exact hv) hu)
    have e : mul R (mul R x v) (mul R (mirror R v) u) = mul R x u := by
      rw [mul_assoc, ← mul_assoc R v, unit_mirror hv, one_mul]
    rwa [e] at k
theorem form_form {R : Ring} (h : Ok R) (x : Zw) : form R (form R x) = form R x := by
  obtain ⟨u, hu, e⟩ := form_is h x
  rw [e, form_times h x hu, e]
theorem norm_form {R : Ring} (h : Ok R) (x : Zw) : norm R (form R x) = norm R x := by
  obtain ⟨u, hu, e⟩ := form_is h x
  rw [e, norm_mul, hu, Int.mul_one]
theorem formBy_is {R : Ring} (h : Ok R) (x : Zw) : formBy R x < unitsOf R ∧ mul R x (pow R (unit1 R) (formBy R x)) = form R x ∧ ∀ k, k < formBy R x → mul R x (pow R (unit1 R) k) ≠ form R x := by
  simp only [formBy]
  have ex : ∃ k, k < unitsOf R ∧ mul R x (pow R (unit1 R) k) = form R x := by
    obtain ⟨u, hu, e⟩ := form_is h x
    have hm := (mem_units h).mpr hu
    simp only [units, List.mem_map, List.mem_range] at hm
    obtain ⟨k, hk, rfl⟩ := hm
    exact ⟨k, hk, e.symm⟩
  cases hf : (List.range (unitsOf R)).find? fun (k : Nat) => mul R x (pow R (unit1 R) k) == form R x with
  | none =>
    obtain ⟨k, hk, e⟩ := ex
    have := List.find?_eq_none.mp hf k (List.mem_range.mpr hk)
    simp [e] at this
  | some k =>
    have h1 := List.find?_some hf
    have h2 := List.mem_of_find?_eq_some hf
    rw [List.find?_range_eq_some] at hf
    refine ⟨List.mem_range.mp h2, by simpa using h1, ?_⟩
    intro j hj
    have := hf.2.2 j hj
    simpa using this
def Dvd (R : Ring) (d x : Zw) : Prop := ∃ k, x = mul R d k
theorem rest_dvd {R : Ring} (h : Ok R) {d k : Zw} (hd : d ≠ zero) : rest R (mul R d k) d = zero ∧ quot R (mul R d k) d = k := by
  have b := quot_best h (x := mul R d k) hd k
  have e0 : less (mul R d k) (mul R k d) = zero := by rw [mul_comm R k d]; simp [less, zero]
  unfold Best at b
  rw [e0, norm_zero] at b
  have n := norm_nonneg h (less (mul R d k) (mul R (quot R (mul R d k) d) d))
  have r0 : rest R (mul R d k) d = zero := norm_eq_zero h (by unfold rest; omega)
  refine ⟨r0, ?_⟩
  have e1 : mul R d (quot R (mul R d k) d) = mul R d k := by
    unfold rest at r0
    rw [mul_comm R d (quot R (mul R d k) d)]
    generalize mul R (quot R (mul R d k) d) d = p at *
    cases p
    generalize mul R d k = q at *
    cases q
    simp only [less, zero, Zw.mk.injEq] at r0 ⊢
    omega
  exact mul_cancel h hd e1
theorem of_rest {R : Ring} {d x : Zw} (e : rest R x d = zero) : x = mul R d (quot R x d) := by
  unfold rest at e
  rw [mul_comm]
  generalize mul R (quot R x d) d = p at *
  cases p; cases x
  simp only [less, zero, Zw.mk.injEq] at e ⊢
  omega
theorem divides_iff {R : Ring} (h : Ok R) {d x : Zw} : divides R d x = true ↔ Dvd R d x := by
  unfold divides Dvd
  by_cases hd : d = zero
  · rw [if_pos hd, beq_iff_eq]
    constructor
    · rintro rfl; exact ⟨zero, (mul_zero ..).symm⟩
    · rintro ⟨k, rfl⟩; rw [hd, zero_mul]
  · rw [if_neg hd, beq_iff_eq]
    constructor
    · intro e; exact ⟨_, of_rest e⟩
    · rintro ⟨k, rfl⟩; exact (rest_dvd h hd).1
theorem Dvd.refl (R : Ring) (x : Zw) : Dvd R x x := ⟨one, (mul_one ..).symm⟩
theorem Dvd.trans {R : Ring} {x y z : Zw} (h1 : Dvd R x y) (h2 : Dvd R y z) : Dvd R x z := by
  obtain ⟨k, rfl⟩ := h1; obtain ⟨l, rfl⟩ := h2
  exact ⟨mul R k l, mul_assoc ..⟩
theorem Dvd.zero (R : Ring) (x : Zw) : Dvd R x Rg.zero := ⟨Rg.zero, (mul_zero ..).symm⟩
theorem Dvd.mul {R : Ring} {x y : Zw} (h : Dvd R x y) (z : Zw) : Dvd R x (mul R y z) := by
  obtain ⟨k, rfl⟩ := h; exact ⟨Rg.mul R k z, mul_assoc ..⟩
theorem Dvd.mul' {R : Ring} {x y : Zw} (h : Dvd R x y) (z : Zw) : Dvd R x (Rg.mul R z y) := by
  rw [mul_comm]; exact h.mul z
theorem Dvd.add {R : Ring} {x y z : Zw} (h1 : Dvd R x y) (h2 : Dvd R x z) : Dvd R x (add y z) := by
  obtain ⟨k, rfl⟩ := h1; obtain ⟨l, rfl⟩ := h2
  exact ⟨Rg.add k l, (mul_add ..).symm⟩
theorem Dvd.less {R : Ring} {x y z : Zw} (h1 : Dvd R x y) (h2 : Dvd R x z) : Dvd R x (less y z) := by
  obtain ⟨k, rfl⟩ := h1; obtain ⟨l, rfl⟩ := h2
  exact ⟨Rg.less k l, (mul_less ..).symm⟩
theorem less_add (x y : Zw) : add (less x y) y = x := by cases x; cases y; simp [less, add]
theorem run_is {R : Ring} (h : Ok R) (x y : Zw) : ∀ (f : Nat) (m n : Made), norm R n.d < (f : Int) →
    m.d = add (mul R m.u x) (mul R m.v y) → n.d = add (mul R n.u x) (mul R n.v y) →
    (run R m n).d = add (mul R (run R m n).u x) (mul R (run R m n).v y) ∧ Dvd R (run R m n).d m.d ∧ Dvd R (run R m n).d n.d ∧ ((run R m n).d = zero → m.d = zero ∧ n.d = zero)
  | 0, m, n, k, _, _ => by
    have := norm_nonneg h n.d
    omega
  | f + 1, m, n, k, hm, hn => by
    by_cases e : n.d = zero
    · rw [run_zero m n e, e]
      exact ⟨hm, Dvd.refl .., Dvd.zero .., fun k => ⟨k, rfl⟩⟩
    · rw [run_step h m n e]
      have lt := rest_norm_lt h (x := m.d) e
      have hl : (m.less R n (quot R m.d n.d)).d = add (mul R (m.less R n (quot R m.d n.d)).u x) (mul R (m.less R n (quot R m.d n.d)).v y) := by
        simp only [Made.less]
        generalize quot R m.d n.d = q
        rw [hm, hn]
        simp only [add, less, mul, Zw.mk.injEq]
        constructor <;> grind
      obtain ⟨a, b, c, d⟩ := run_is h x y f n (m.less R n (quot R m.d n.d)) (by rw [less_d]; omega) hn hl
      generalize run R n (m.less R n (quot R m.d n.d)) = g at *
      refine ⟨a, ?_, b, fun k => absurd (d k).1 e⟩
      have e2 : m.d = add (rest R m.d n.d) (mul R (quot R m.d n.d) n.d) := by
        unfold rest; rw [less_add]
      rw [e2]
      rw [less_d] at c
      exact c.add (b.mul' _)
theorem gcd_is {R : Ring} (h : Ok R) (x y : Zw) : (gcd R x y).d = add (mul R (gcd R x y).u x) (mul R (gcd R x y).v y) ∧ Dvd R (gcd R x y).d x ∧ Dvd R (gcd R x y).d y ∧ form R (gcd R x y).d = (gcd R x y).d ∧ ((gcd R x y).d = zero → x = zero ∧ y = zero) := by
  rw [gcd_run h]
  obtain ⟨a, b, c, d⟩ := run_is h x y ((norm R y).toNat + 1) ⟨x, one, zero⟩ ⟨y, zero, one⟩ (by have := norm_nonneg h y; dsimp only; omega)
    (by simp only [one_mul, zero_mul]; simp [add, zero]) (by simp only [one_mul, zero_mul]; simp [add, zero])
  generalize run R ⟨x, one, zero⟩ ⟨y, zero, one⟩ = m at *
  dsimp only [Made.times] at *
  obtain ⟨f1, f2, f3⟩ := formBy_is h m.d
  have hu : norm R (pow R (unit1 R) (formBy R m.d)) = 1 := by
    rw [← mem_units h]
    exact List.mem_map.mpr ⟨_, List.mem_range.mpr f1, rfl⟩
  generalize pow R (unit1 R) (formBy R m.d) = u at *
  have up : ∀ z, Dvd R m.d z → Dvd R (mul R m.d u) z := by
    rintro z ⟨k, rfl⟩
    exact ⟨mul R (mirror R u) k, by rw [mul_assoc, ← mul_assoc R u, unit_mirror hu, one_mul]⟩
  refine ⟨?_, up _ b, up _ c, ?_, ?_⟩
  · rw [a]
    generalize m.u = p
    generalize m.v = q
    simp only [add, mul, Zw.mk.injEq]
    constructor <;> grind
  · rw [f2, form_form h]
  · intro e
    rcases mul_eq_zero h e with k | k
    · exact d k
    · rw [k, norm_zero] at hu; omega
end Rf
set_option linter.unusedVariables false
namespace Rf
open Rg
def Same (R : Ring) (m x y : Zw) : Prop := Dvd R m (less x y)
theorem Same.refl (R : Ring) (m x : Zw) : Same R m x x := by
  have : less x x = zero := by simp [less, zero]
  unfold Same; rw [this]; exact Dvd.zero ..
theorem Same.symm {R : Ring} {m x y : Zw} (h : Same R m x y) : Same R m y x := by
  obtain ⟨k, e⟩ := h
  refine ⟨less zero k, ?_⟩
  rw [mul_less, ← e, mul_zero]
  simp only [less, zero, Zw.mk.injEq]; omega
theorem Same.trans {R : Ring} {m x y z : Zw} (h1 : Same R m x y) (h2 : Same R m y z) : Same R m x z := by
  have e : less x z = add (less x y) (less y z) := by simp only [less, add, Zw.mk.injEq]; omega
  unfold Same; rw [e]; exact Dvd.add h1 h2
theorem Same.mul {R : Ring} {m x y x' y' : Zw} (h1 : Same R m x x') (h2 : Same R m y y') : Same R m (mul R x y) (mul R x' y') := by
  have e : less (Rg.mul R x y) (Rg.mul R x' y') = add (Rg.mul R (less x x') y) (Rg.mul R x' (less y y')) := by
    simp only [less, add, Rg.mul, Zw.mk.injEq]; constructor <;> grind
  unfold Same; rw [e]; exact Dvd.add (Dvd.mul h1 _) (Dvd.mul' h2 _)
theorem Same.add {R : Ring} {m x y x' y' : Zw} (h1 : Same R m x x') (h2 : Same R m y y') : Same R m (add x y) (add x' y') := by
  have e : less (Rg.add x y) (Rg.add x' y') = Rg.add (less x x') (less y y') := by
    simp only [less, Rg.add, Zw.mk.injEq]; omega
  unfold Same; rw [e]; exact Dvd.add h1 h2
theorem Same.less {R : Ring} {m x y x' y' : Zw} (h1 : Same R m x x') (h2 : Same R m y y') : Same R m (less x y) (less x' y') := by
  have e : Rg.less (Rg.less x y) (Rg.less x' y') = Rg.less (Rg.less x x') (Rg.less y y') := by
    simp only [Rg.less, Zw.mk.injEq]; omega
  unfold Same; rw [e]; exact Dvd.less h1 h2
theorem same_rest (R : Ring) (x m : Zw) : Same R m (rest R x m) x := by
  refine ⟨less zero (quot R x m), ?_⟩
  unfold rest
  rw [mul_comm]
  generalize quot R x m = q
  simp only [less, mul, zero, Zw.mk.injEq]; constructor <;> grind
theorem quot_add {R : Ring} (h : Ok R) {x m k : Zw} (hm : m ≠ zero) : quot R (add x (mul R k m)) m = add (quot R x m) k := by
  refine (quot_unique h hm ?_).symm
  intro q
  have b := quot_best h (x := x) hm (less q k)
  have e1 : less (add x (mul R k m)) (mul R (add (quot R x m) k) m) = less x (mul R (quot R x m) m) := by
    generalize quot R x m = p
    simp only [less, add, mul, Zw.mk.injEq]; constructor <;> grind
  have e2 : less (add x (mul R k m)) (mul R q m) = less x (mul R (less q k) m) := by
    simp only [less, add, mul, Zw.mk.injEq]; constructor <;> grind
  unfold Best at b ⊢
  rw [e1, e2]
  rcases b with b | ⟨b, c⟩
  · exact .inl b
  · right
    refine ⟨b, ?_⟩
    generalize quot R x m = p at *
    rcases c with c | c
    · left
      cases p; cases q; cases k
      simp only [less, add, Zw.mk.injEq] at c ⊢; omega
    · right
      rw [before_iff] at c ⊢
      simp only [less, add] at c ⊢; omega
theorem rest_same {R : Ring} (h : Ok R) {x y m : Zw} (hm : m ≠ zero) (k : Same R m x y) : rest R x m = rest R y m := by
  obtain ⟨k, e⟩ := k
  have ex : x = add y (mul R k m) := by
    rw [mul_comm, ← e]
    cases x; cases y; simp only [less, add, Zw.mk.injEq]; omega
  unfold rest
  rw [ex, quot_add h hm]
  generalize quot R y m = p
  simp only [less, add, mul, Zw.mk.injEq]; constructor <;> grind
theorem rest_rest {R : Ring} (h : Ok R) {x m : Zw} (hm : m ≠ zero) : rest R (rest R x m) m = rest R x m :=
  rest_same h hm (same_rest R x m)
theorem rest_eq {R : Ring} (h : Ok R) {x z m : Zw} (hm : m ≠ zero) (k : Same R m z x) (own : rest R z m = z) : z = rest R x m := by
  rw [← own]; exact rest_same h hm k
theorem pow_add (R : Ring) (x : Zw) (m : Nat) : ∀ n, pow R x (m + n) = mul R (pow R x m) (pow R x n)
  | 0 => by rw [Nat.add_zero]; exact (mul_one ..).symm
  | n + 1 => by
    rw [← Nat.add_assoc]
    show mul R (pow R x (m + n)) x = mul R (pow R x m) (mul R (pow R x n) x)
    rw [pow_add R x m n, mul_assoc]
theorem pow_one (R : Ring) (x : Zw) : pow R x 1 = x := one_mul ..
theorem pow_sq (R : Ring) (x : Zw) : ∀ n, pow R (mul R x x) n = pow R x (2 * n)
  | 0 => rfl
  | n + 1 => by
    show mul R (pow R (mul R x x) n) (mul R x x) = _
    rw [pow_sq R x n, show 2 * (n + 1) = 2 * n + 1 + 1 by omega]
    show _ = mul R (mul R (pow R x (2 * n)) x) x
    rw [mul_assoc]
theorem same_pow {R : Ring} {m x y : Zw} (h : Same R m x y) : ∀ n, Same R m (pow R x n) (pow R y n)
  | 0 => Same.refl ..
  | n + 1 => Same.mul (same_pow h n) h
theorem powRest_is {R : Ring} (h : Ok R) {m : Zw} (hm : m ≠ zero) : ∀ (f : Nat) (x : Zw) (n : Nat), n < 2 ^ f → powRest R m f x n = rest R (pow R x n) m
  | 0, x, n, k => by
    have : n = 0 := by simpa using k
    subst this; rfl
  | f + 1, x, n, k => by
    unfold powRest
    by_cases e : n = 0
    · rw [if_pos e, e]; rfl
    · rw [if_neg e]
      have ih := powRest_is h hm f (rest R (mul R x x) m) (n / 2) (by rw [Nat.pow_succ] at k; omega)
      have e1 : Same R m (pow R (rest R (mul R x x) m) (n / 2)) (pow R x (2 * (n / 2))) := by
        rw [← pow_sq]; exact same_pow (same_rest ..) _
      have e2 : powRest R m f (rest R (mul R x x) m) (n / 2) = rest R (pow R x (2 * (n / 2))) m := by
        rw [ih]; exact rest_same h hm e1
      simp only [e2]
      split
      · next k1 =>
        refine rest_same h hm ?_
        have : n = 2 * (n / 2) + 1 := by omega
        have e3 : pow R x n = mul R (pow R x (2 * (n / 2))) x := by rw [this]; simp only [show (2 * (n / 2) + 1) / 2 = n / 2 by omega]; rfl
        rw [e3]
        exact Same.mul (same_rest ..) (Same.refl ..)
      · next k1 =>
        have : n = 2 * (n / 2) := by omega
        rw [← this]
theorem norm_one_of_dvd {R : Ring} (h : Ok R) {x : Zw} (k : Dvd R x one) : norm R x = 1 := by
  obtain ⟨y, e⟩ := k
  have := norm_mul R x y
  rw [← e] at this
  have n1 := norm_nonneg h x
  have n2 := norm_nonneg h y
  have : norm R x * norm R y = 1 := by rw [← this]; simp [norm, one]
  exact Int.eq_one_of_mul_eq_one_right n1 this
end Rf
set_option linter.unusedVariables false
namespace Rf
open Rg
theorem dvd_form {R : Ring} (h : Ok R) {x y : Zw} : Dvd R (form R x) y ↔ Dvd R x y := by
  obtain ⟨u, hu, e⟩ := form_is h x
  rw [e]
  constructor
  · rintro ⟨k, rfl⟩; exact ⟨mul R u k, mul_assoc ..⟩
  · rintro ⟨k, rfl⟩
    exact ⟨mul R (mirror R u) k, by rw [mul_assoc, ← mul_assoc R u, unit_mirror hu, one_mul]⟩
theorem rootBits_is (n : Nat) : ∀ (k r : Nat), r * r ≤ n → n < (r + 2 ^ k) * (r + 2 ^ k) → rootBits n k r * rootBits n k r ≤ n ∧ n < (rootBits n k r + 1) * (rootBits n k r + 1)
  | 0, r, h1, h2 => ⟨h1, h2⟩
  | k + 1, r, h1, h2 => by
    unfold rootBits
    simp only
    split
    · next h =>
      refine rootBits_is n k _ h ?_
      rw [Nat.pow_succ] at h2
      rwa [show r + 2 ^ k + 2 ^ k = r + 2 ^ k * 2 by omega]
    · next h =>
      exact rootBits_is n k r h1 (by omega)
theorem sqrt_is (n : Nat) : sqrt n * sqrt n ≤ n ∧ n < (sqrt n + 1) * (sqrt n + 1) := by
  unfold sqrt
  refine rootBits_is n _ 0 (by omega) ?_
  rw [Nat.zero_add, ← Nat.pow_add]
  have h1 : n < 2 ^ (n.log2 + 1) := Nat.lt_log2_self
  have h2 : 2 ^ (n.log2 + 1) ≤ 2 ^ (n.log2 / 2 + 1 + (n.log2 / 2 + 1)) := Nat.pow_le_pow_right (by decide) (by omega)
  omega
theorem sqrt_unique {n r : Nat} (h1 : r * r ≤ n) (h2 : n < (r + 1) * (r + 1)) : r = sqrt n := by
  obtain ⟨a, b⟩ := sqrt_is n
  generalize sqrt n = s at *
  rcases Nat.lt_trichotomy r s with k | k | k
  · have := Nat.mul_le_mul k k
    simp only [Nat.succ_eq_add_one] at this
    omega
  · exact k
  · have := Nat.mul_le_mul k k
    simp only [Nat.succ_eq_add_one] at this
    omega
theorem sqrt_sq (r : Nat) : sqrt (r * r) = r := by
  refine (sqrt_unique (Nat.le_refl _) ?_).symm
  exact Nat.mul_lt_mul_of_lt_of_le (by omega) (by omega) (by omega)
theorem sqrt_natAbs {v : Int} {n : Nat} (e : (n : Int) = v * v) : sqrt n = v.natAbs := by
  have : n = v.natAbs * v.natAbs := by
    have := Int.natAbs_mul_self (a := v)
    omega
  rw [this, sqrt_sq]
end Rf
set_option linter.unusedVariables false
namespace Rf
open Rg
def Sorted (l : List Zw) : Prop := l.Pairwise fun x y => before x y = true
theorem putIn_mem {x z : Zw} : ∀ {l : List Zw}, z ∈ putIn x l ↔ z = x ∨ z ∈ l
  | [] => by simp [putIn]
  | y :: l => by
    unfold putIn
    split
    · next h => subst h; simp
    · split
      · simp
      · rw [List.mem_cons, putIn_mem (l := l), List.mem_cons]
        constructor
        · rintro (h | h | h) <;> simp [h]
        · rintro (h | h | h) <;> simp [h]
theorem putIn_sorted {x : Zw} : ∀ {l : List Zw}, Sorted l → Sorted (putIn x l)
  | [], _ => by simp [putIn, Sorted]
  | y :: l, h => by
    unfold putIn
    unfold Sorted at *
    split
    · exact h
    · next h1 =>
      split
      · next h2 =>
        refine List.pairwise_cons.mpr ⟨?_, h⟩
        intro z hz
        rcases List.mem_cons.mp hz with rfl | hz
        · exact h2
        · exact before_trans h2 ((List.pairwise_cons.mp h).1 z hz)
      · next h2 =>
        obtain ⟨h3, h4⟩ := List.pairwise_cons.mp h
        refine List.pairwise_cons.mpr ⟨?_, putIn_sorted h4⟩
        intro z hz
        rcases putIn_mem.mp hz with rfl | hz
        · rcases before_total z y with k | k | k
          · exact absurd k h1
          · exact absurd k h2
          · exact k
        · exact h3 z hz
theorem sorted_unique : ∀ {l k : List Zw}, Sorted l → Sorted k → (∀ z, z ∈ l ↔ z ∈ k) → l = k
  | [], [], _, _, _ => rfl
  | [], b :: k, _, _, h => by have := (h b).mpr (List.mem_cons_self ..); cases this
  | a :: l, [], _, _, h => by have := (h a).mp (List.mem_cons_self ..); cases this
  | a :: l, b :: k, h1, h2, h => by
    obtain ⟨a1, a2⟩ := List.pairwise_cons.mp h1
    obtain ⟨b1, b2⟩ := List.pairwise_cons.mp h2
    have e : a = b := by
      rcases List.mem_cons.mp ((h a).mp (List.mem_cons_self ..)) with e | e
      · exact e
      · rcases List.mem_cons.mp ((h b).mpr (List.mem_cons_self ..)) with e' | e'
        · exact e'.symm
        · exact (before_asymm (a1 b e') (b1 a e)).elim
    subst e
    congr 1
    refine sorted_unique a2 b2 ?_
    intro z
    have := h z
    simp only [List.mem_cons] at this
    constructor
    · intro hz
      rcases this.mp (.inr hz) with rfl | k
      · exact (before_irrefl (a1 z hz)).elim
      · exact k
    · intro hz
      rcases this.mpr (.inr hz) with rfl | k
      · exact (before_irrefl (b1 z hz)).elim
      · exact k
theorem fold_putIn {R : Ring} : ∀ (l acc : List Zw), Sorted acc → Sorted (l.foldl (fun (l : List Zw) (x : Zw) => if form R x = x then putIn x l else l) acc) ∧
    ∀ z, z ∈ l.foldl (fun (l : List Zw) (x : Zw) => if form R x = x then putIn x l else l) acc ↔ z ∈ acc ∨ (z ∈ l ∧ form R z = z)
  | [], acc, h => ⟨h, by simp⟩
  | a :: l, acc, h => by
    rw [List.foldl_cons]
    by_cases k : form R a = a
    · rw [if_pos k]
      obtain ⟨h1, h2⟩ := fold_putIn (R := R) l (putIn a acc) (putIn_sorted h)
      refine ⟨h1, ?_⟩
      intro z
      rw [h2, putIn_mem, List.mem_cons]
      constructor
      · rintro ((rfl | h) | ⟨h, h'⟩)
        · exact .inr ⟨.inl rfl, k⟩
        · exact .inl h
        · exact .inr ⟨.inr h, h'⟩
      · rintro (h | ⟨rfl | h, h'⟩)
        · exact .inl (.inr h)
        · exact .inl (.inl rfl)
        · exact .inr ⟨h, h'⟩
    · rw [if_neg k]
      obtain ⟨h1, h2⟩ := fold_putIn (R := R) l acc h
      refine ⟨h1, ?_⟩
      intro z
      rw [h2, List.mem_cons]
      constructor
      · rintro (h | ⟨h, h'⟩)
        · exact .inl h
        · exact .inr ⟨.inr h, h'⟩
      · rintro (h | ⟨rfl | h, h'⟩)
        · exact .inl h
        · exact absurd h' k
        · exact .inr ⟨h, h'⟩
theorem disc_pos {R : Ring} (h : Ok R) : 3 ≤ 4 * R.c - R.t * R.t ∧ 4 * R.c - R.t * R.t ≤ 11 := by
  rcases h with ⟨ht, hc⟩ | ⟨ht, hc⟩ | ⟨ht, hc⟩ | ⟨ht, hc⟩ | ⟨ht, hc⟩ <;> rw [ht, hc] <;> decide
def normCands (R : Ring) (n : Nat) : List Zw :=
  let e := (4 * R.c - R.t * R.t).toNat
  let top := sqrt (4 * n / e)
  (List.range (2 * top + 1)).flatMap fun (i : Nat) => let b : Int := (i : Int) - (top : Int)
    let s := 4 * n - e * (b.natAbs * b.natAbs)
    let r := sqrt s
    if r * r = s then ([(r : Int), -(r : Int)].filter fun (v : Int) => (v - R.t * b) % 2 == 0).map fun (v : Int) => (⟨(v - R.t * b) / 2, b⟩ : Zw) else []
theorem norm_by_parts (R : Ring) {v b : Int} (hv : (v - R.t * b) % 2 = 0) : 4 * norm R ⟨(v - R.t * b) / 2, b⟩ = v * v + (4 * R.c - R.t * R.t) * (b * b) := by
  rw [four_norm]
  dsimp only
  have : 2 * ((v - R.t * b) / 2) + R.t * b = v := by
    generalize R.t * b = w at *
    omega
  rw [this]
theorem mem_normCands {R : Ring} (h : Ok R) {n : Nat} {z : Zw} : z ∈ normCands R n ↔ norm R z = (n : Int) := by
  have dp := disc_pos h
  obtain ⟨e, he⟩ : ∃ e : Nat, (e : Int) = 4 * R.c - R.t * R.t := ⟨(4 * R.c - R.t * R.t).toNat, by omega⟩
  have he' : (4 * R.c - R.t * R.t).toNat = e := by omega
  have e3 : 3 ≤ e := by omega
  simp only [normCands, List.mem_flatMap, List.mem_range, he']
  obtain ⟨t1, t2⟩ := sqrt_is (4 * n / e)
  have t3 : 4 * n / e * e ≤ 4 * n := Nat.div_mul_le_self ..
  generalize hT : sqrt (4 * n / e) = top at *
  constructor
  · rintro ⟨i, hi, hz⟩
    split at hz
    · next hs =>
      simp only [List.mem_map, List.mem_filter, List.mem_cons, List.not_mem_nil, or_false, beq_iff_eq] at hz
      obtain ⟨v, ⟨hv, hp⟩, rfl⟩ := hz
      have k := norm_by_parts R hp
      generalize hb : (i : Int) - (top : Int) = b at *
      have vv : v * v = ((4 * n - e * (b.natAbs * b.natAbs) : Nat) : Int) := by
        rw [← hs]
        rcases hv with rfl | rfl
        · exact (Int.natCast_mul ..).symm
        · rw [Int.neg_mul_neg]; exact (Int.natCast_mul ..).symm
      have bb : ((b.natAbs * b.natAbs : Nat) : Int) = b * b := Int.natAbs_mul_self
      have le : e * (b.natAbs * b.natAbs) ≤ 4 * n := by
        have h1 : b.natAbs ≤ top := by omega
        have h2 := Nat.mul_le_mul h1 h1
        have h3 : b.natAbs * b.natAbs ≤ 4 * n / e := Nat.le_trans h2 t1
        have h4 := Nat.mul_le_mul_right e h3
        rw [Nat.mul_comm e]; omega
      have eb : ((e * (b.natAbs * b.natAbs) : Nat) : Int) = (4 * R.c - R.t * R.t) * (b * b) := by rw [Int.natCast_mul, bb, he]
      omega
    · cases hz
  · intro hn
    have f := four_norm R z
    rw [hn] at f
    have bb : ((z.b.natAbs * z.b.natAbs : Nat) : Int) = z.b * z.b := Int.natAbs_mul_self
    have eb : ((e * (z.b.natAbs * z.b.natAbs) : Nat) : Int) = (4 * R.c - R.t * R.t) * (z.b * z.b) := by rw [Int.natCast_mul, bb, he]
    have sv := sq_nonneg (2 * z.a + R.t * z.b)
    have le : e * (z.b.natAbs * z.b.natAbs) ≤ 4 * n := by omega
    have le2 : z.b.natAbs * z.b.natAbs ≤ 4 * n / e := by
      rw [Nat.le_div_iff_mul_le (by omega), Nat.mul_comm]; exact le
    have bt : z.b.natAbs ≤ top := by
      apply Nat.not_lt.mp
      intro k
      have := Nat.mul_le_mul k k
      simp only [Nat.succ_eq_add_one] at this
      omega
    refine ⟨(z.b + top).toNat, by omega, ?_⟩
    have hb : (((z.b + top).toNat : Nat) : Int) - (top : Int) = z.b := by omega
    rw [hb]
    have hs : ((4 * n - e * (z.b.natAbs * z.b.natAbs) : Nat) : Int) = (2 * z.a + R.t * z.b) * (2 * z.a + R.t * z.b) := by omega
    have hr := sqrt_natAbs hs
    have sq : sqrt (4 * n - e * (z.b.natAbs * z.b.natAbs)) * sqrt (4 * n - e * (z.b.natAbs * z.b.natAbs)) = 4 * n - e * (z.b.natAbs * z.b.natAbs) := by
      rw [hr]
      have := Int.natAbs_mul_self (a := 2 * z.a + R.t * z.b)
      omega
    rw [if_pos sq, hr]
    simp only [List.mem_map, List.mem_filter, List.mem_cons, List.not_mem_nil, or_false, beq_iff_eq]
    refine ⟨2 * z.a + R.t * z.b, ⟨by omega, by omega⟩, ?_⟩
    cases z
    simp only [Zw.mk.injEq, and_true]
    omega
theorem norms_is {R : Ring} (h : Ok R) (n : Nat) : Sorted (norms R n) ∧ ∀ z, z ∈ norms R n ↔ norm R z = (n : Int) ∧ form R z = z := by
  have := fold_putIn (R := R) (normCands R n) [] List.Pairwise.nil
  refine ⟨this.1, ?_⟩
  intro z
  have k := this.2 z
  rw [mem_normCands h] at k
  simp only [List.not_mem_nil, false_or] at k
  exact k
end Rf
set_option linter.unusedVariables false
namespace Rf
open Rg
def WP (p : Nat) : Prop := 2 ≤ p ∧ ∀ d, d ∣ p → d = 1 ∨ d = p
def NoBelow (n d : Nat) : Prop := ∀ k, 2 ≤ k → k < d → ¬ k ∣ n
theorem leastFrom_is : ∀ (f n d : Nat), 2 ≤ n → 2 ≤ d → NoBelow n d → n < (d + f) * (d + f) → leastFrom f n d ∣ n ∧ 2 ≤ leastFrom f n d ∧ NoBelow n (leastFrom f n d)
  | 0, n, d, hn, hd, hb, hf => by
    unfold leastFrom
    refine ⟨Nat.dvd_refl _, hn, ?_⟩
    intro k k2 kn kd
    obtain ⟨m, hm⟩ := kd
    rcases Nat.lt_or_ge k d with h | h
    · exact hb k k2 h ⟨m, hm⟩
    · have hm2 : 2 ≤ m := by
        rcases (show m = 0 ∨ m = 1 ∨ 2 ≤ m by omega) with h0 | h0 | h0
        · subst h0; omega
        · subst h0; omega
        · exact h0
      rcases Nat.lt_or_ge m d with h' | h'
      · exact hb m hm2 h' ⟨k, by rw [Nat.mul_comm]; exact hm⟩
      · have := Nat.mul_le_mul h h'
        simp only [Nat.add_zero] at hf
        omega
  | f + 1, n, d, hn, hd, hb, hf => by
    unfold leastFrom
    split
    · next h1 =>
      refine ⟨Nat.dvd_refl _, hn, ?_⟩
      intro k k2 kn kd
      obtain ⟨m, hm⟩ := kd
      rcases Nat.lt_or_ge k d with h | h
      · exact hb k k2 h ⟨m, hm⟩
      · have hm2 : 2 ≤ m := by
          rcases (show m = 0 ∨ m = 1 ∨ 2 ≤ m by omega) with h0 | h0 | h0
          · subst h0; omega
          · subst h0; omega
          · exact h0
        rcases Nat.lt_or_ge m d with h' | h'
        · exact hb m hm2 h' ⟨k, by rw [Nat.mul_comm]; exact hm⟩
        · have := Nat.mul_le_mul h h'
          omega
    · split
      · next h1 h2 => exact ⟨Nat.dvd_of_mod_eq_zero h2, hd, hb⟩
      · next h1 h2 =>
        refine leastFrom_is f n (d + 1) hn (by omega) ?_ (by rwa [show d + 1 + f = d + (f + 1) by omega])
        intro k k2 kd
        rcases Nat.lt_or_ge k d with h | h
        · exact hb k k2 h
        · have : k = d := by omega
          subst this
          intro k3
          exact h2 (Nat.mod_eq_zero_of_dvd k3)
theorem wp_of_least {n p : Nat} (hp : p ∣ n) (h2 : 2 ≤ p) (hb : NoBelow n p) : WP p := by
  refine ⟨h2, ?_⟩
  intro d hd
  have hle := Nat.le_of_dvd (by omega) hd
  rcases (show d = 0 ∨ d = 1 ∨ d = p ∨ (2 ≤ d ∧ d < p) by omega) with h | h | h | h
  · subst h
    have := Nat.eq_zero_of_zero_dvd hd
    omega
  · exact .inl h
  · exact .inr h
  · exact absurd (Nat.dvd_trans hd hp) (hb d h.1 h.2)
theorem noBelow_two (n : Nat) : NoBelow n 2 := by intro k h1 h2; omega
theorem WP.dvd_mul {p a b : Nat} (hp : WP p) (h : p ∣ a * b) : p ∣ a ∨ p ∣ b := by
  by_cases k : p ∣ a
  · exact .inl k
  · right
    have g : Nat.gcd p a = 1 := by
      rcases hp.2 _ (Nat.gcd_dvd_left p a) with e | e
      · exact e
      · have := Nat.gcd_dvd_right p a
        rw [e] at this
        exact absurd this k
    exact Nat.Coprime.dvd_of_dvd_mul_left g h
theorem without_is : ∀ (f n p : Nat), WP p → n ≠ 0 → n < 2 ^ f → without f n p ≠ 0 ∧ ¬ p ∣ without f n p ∧ (∀ q, WP q → q ≠ p → (q ∣ without f n p ↔ q ∣ n)) ∧ without f n p ∣ n
  | 0, n, p, hp, h0, hf => by simp at hf; omega
  | f + 1, n, p, hp, h0, hf => by
    unfold without
    have p2 := hp.1
    split
    · next h =>
      obtain ⟨m, hm⟩ := Nat.dvd_of_mod_eq_zero h
      have e : n / p = m := by rw [hm, Nat.mul_div_cancel_left _ (by omega)]
      rw [e]
      have m0 : m ≠ 0 := by rintro rfl; omega
      have mf : m < 2 ^ f := by
        have := Nat.mul_le_mul_right m p2
        rw [Nat.pow_succ] at hf
        omega
      obtain ⟨a, b, c, d⟩ := without_is f m p hp m0 mf
      refine ⟨a, b, ?_, ?_⟩
      · intro q hq hne
        rw [c q hq hne, hm]
        constructor
        · intro k; exact Nat.dvd_trans k (Nat.dvd_mul_left ..)
        · intro k
          rcases hq.dvd_mul k with k | k
          · rcases hp.2 q k with e' | e'
            · have := hq.1; omega
            · exact absurd e' hne
          · exact k
      · exact Nat.dvd_trans d ⟨p, by rw [hm, Nat.mul_comm]⟩
    · next h =>
      refine ⟨h0, ?_, fun _ _ _ => Iff.rfl, Nat.dvd_refl _⟩
      intro k
      exact h (Nat.mod_eq_zero_of_dvd k)
theorem exists_wp {n : Nat} (hn : 2 ≤ n) : ∃ p, WP p ∧ p ∣ n := by
  have := leastFrom_is n n 2 hn (by omega) (noBelow_two n) (by
    have h1 : n * 1 ≤ n * n := Nat.mul_le_mul_left n (by omega)
    have h2 := Nat.mul_lt_mul_of_lt_of_le (show n < 2 + n by omega) (show n ≤ 2 + n by omega) (by omega)
    omega)
  exact ⟨_, wp_of_least this.1 this.2.1 this.2.2, this.1⟩
theorem primesFrom_is : ∀ (f n d : Nat), n ≠ 0 → n < 2 ^ f → n < 2 ^ 40 → 2 ≤ d → NoBelow n d → 
    (primesFrom f n d).Pairwise (· < ·) ∧ (∀ q, q ∈ primesFrom f n d ↔ WP q ∧ q ∣ n) ∧ (∀ q ∈ primesFrom f n d, d ≤ q)
  | 0, n, d, h0, hf, _, _, _ => by simp at hf; omega
  | f + 1, n, d, h0, hf, h40, hd, hb => by
    unfold primesFrom
    split
    · next h1 =>
      have : n = 1 := by omega
      subst this
      refine ⟨List.Pairwise.nil, ?_, by simp⟩
      intro q
      simp only [List.not_mem_nil, false_iff, not_and]
      intro hq k
      have := Nat.le_of_dvd (by omega) k
      have := hq.1
      omega
    · next h1 =>
      simp only
      have L := leastFrom_is TRIES n d (by omega) hd hb (by
        have h : 1048576 * 1048576 ≤ (d + TRIES) * (d + TRIES) := by
          unfold TRIES
          exact Nat.mul_le_mul (by omega) (by omega)
        have : (2 : Nat) ^ 40 = 1048576 * 1048576 := by decide
        omega)
      generalize leastFrom TRIES n d = p at *
      obtain ⟨l1, l2, l3⟩ := L
      have hp := wp_of_least l1 l2 l3
      have dp : d ≤ p := by
        apply Nat.not_lt.mp
        intro k
        exact hb p l2 k l1
      have nw : without 64 n p ≠ 0 ∧ ¬ p ∣ without 64 n p ∧ (∀ q, WP q → q ≠ p → (q ∣ without 64 n p ↔ q ∣ n)) ∧ without 64 n p ∣ n := by
        refine without_is 64 n p hp h0 ?_
        have : (2 : Nat) ^ 40 ≤ 2 ^ 64 := by decide
        omega
      obtain ⟨w0, w1, w2, w3⟩ := nw
      have wlt : without 64 n p < 2 ^ f := by
        obtain ⟨m, hm⟩ := w3
        have m2 : 2 ≤ m := by
          rcases (show m = 0 ∨ m = 1 ∨ 2 ≤ m by omega) with h | h | h
          · subst h; omega
          · subst h
            rw [Nat.mul_one] at hm
            rw [← hm] at w1
            exact absurd l1 w1
          · exact h
        have := Nat.mul_le_mul_left (without 64 n p) m2
        rw [Nat.pow_succ] at hf
        omega
      have w40 : without 64 n p < 2 ^ 40 := Nat.lt_of_le_of_lt (Nat.le_of_dvd (by omega) w3) h40
      have wb : NoBelow (without 64 n p) p := fun k k2 kp kd => l3 k k2 kp (Nat.dvd_trans kd w3)
      obtain ⟨i1, i2, i3⟩ := primesFrom_is f (without 64 n p) p w0 wlt w40 l2 wb
      refine ⟨?_, ?_, ?_⟩
      · refine List.pairwise_cons.mpr ⟨?_, i1⟩
        intro q hq
        have h1 := i3 q hq
        have h2 := (i2 q).mp hq
        rcases Nat.lt_or_ge p q with h | h
        · exact h
        · have : q = p := by omega
          subst this
          exact absurd h2.2 w1
      · intro q
        rw [List.mem_cons, i2]
        constructor
        · rintro (rfl | ⟨h1, h2⟩)
          · exact ⟨hp, l1⟩
          · exact ⟨h1, Nat.dvd_trans h2 w3⟩
        · rintro ⟨h1, h2⟩
          by_cases e : q = p
          · exact .inl e
          · exact .inr ⟨h1, (w2 q h1 e).mpr h2⟩
      · intro q hq
        rcases List.mem_cons.mp hq with rfl | hq
        · exact dp
        · have := i3 q hq; omega
theorem primesOf_is {n : Nat} (h0 : n ≠ 0) (h40 : n < 2 ^ 40) : (primesOf n).Pairwise (· < ·) ∧ ∀ q, q ∈ primesOf n ↔ WP q ∧ q ∣ n := by
  have h := primesFrom_is 64 n 2 h0 (by have : (2 : Nat) ^ 40 ≤ 2 ^ 64 := by decide
                                        omega) h40 (by omega) (noBelow_two n)
  exact ⟨h.1, h.2.1⟩
end Rf
set_option linter.unusedVariables false
namespace Rf
open Rg
def Pr (R : Ring) (p : Zw) : Prop := p ≠ zero ∧ norm R p ≠ 1 ∧ ∀ x y, p = mul R x y → norm R x = 1 ∨ norm R y = 1
theorem norm_dvd {R : Ring} {x y : Zw} (h : Dvd R x y) : norm R x ∣ norm R y := by
  obtain ⟨k, rfl⟩ := h; exact ⟨norm R k, norm_mul ..⟩
theorem dvd_same_norm {R : Ring} (h : Ok R) {x y : Zw} (k : Dvd R x y) (e : norm R x = norm R y) (hy : y ≠ zero) : ∃ u, norm R u = 1 ∧ y = mul R x u := by
  obtain ⟨u, rfl⟩ := k
  refine ⟨u, ?_, rfl⟩
  rw [norm_mul] at e
  have hx : x ≠ zero := by rintro rfl; exact hy (zero_mul ..)
  have := norm_pos h hx
  have e2 : norm R x * 1 = norm R x * norm R u := by rw [Int.mul_one]; exact e
  exact (Int.eq_of_mul_eq_mul_left (by omega) e2).symm
theorem Pr.dvd_mul {R : Ring} (h : Ok R) {p x y : Zw} (hp : Pr R p) (k : Dvd R p (mul R x y)) : Dvd R p x ∨ Dvd R p y := by
  obtain ⟨g1, g2, g3, g4, g5⟩ := gcd_is h p x
  generalize gcd R p x = g at *
  obtain ⟨q, hq⟩ := g2
  rcases hp.2.2 _ _ hq with n1 | n1
  · right
    have a : Dvd R p (mul R y g.d) := by
      rw [g1, mul_add]
      refine Dvd.add ?_ ?_
      · exact ((Dvd.refl R p).mul' _).mul' _
      · have : mul R y (mul R g.v x) = mul R g.v (mul R x y) := by
          simp only [mul, Zw.mk.injEq]; constructor <;> grind
        rw [this]; exact k.mul' _
    obtain ⟨w, hw⟩ := a
    refine ⟨mul R w (mirror R g.d), ?_⟩
    rw [← mul_assoc, ← hw, mul_assoc, unit_mirror n1, mul_one]
  · left
    refine Dvd.trans ?_ g3
    refine ⟨mirror R q, ?_⟩
    conv => rhs; rw [hq]
    rw [mul_assoc, unit_mirror n1, mul_one]
theorem Pr.norm_ge {R : Ring} (h : Ok R) {p : Zw} (hp : Pr R p) : 2 ≤ norm R p := by
  have := norm_pos h hp.1
  have := hp.2.1
  omega
theorem Pr.times {R : Ring} {p u : Zw} (hp : Pr R p) (hu : norm R u = 1) : Pr R (mul R p u) := by
  refine ⟨?_, ?_, ?_⟩
  · intro e
    have : p = mul R (mul R p u) (mirror R u) := by rw [mul_assoc, unit_mirror hu, mul_one]
    rw [e, zero_mul] at this
    exact hp.1 this
  · rw [norm_mul, hu, Int.mul_one]; exact hp.2.1
  · intro x y e
    have e2 : p = mul R x (mul R y (mirror R u)) := by
      rw [← mul_assoc, ← e, mul_assoc, unit_mirror hu, mul_one]
    rcases hp.2.2 _ _ e2 with k | k
    · exact .inl k
    · right
      rw [norm_mul, norm_mirror, hu, Int.mul_one] at k
      exact k
theorem Pr.form {R : Ring} (h : Ok R) {p : Zw} (hp : Pr R p) : Pr R (form R p) := by
  obtain ⟨u, hu, e⟩ := form_is h p
  rw [e]; exact hp.times hu
theorem Pr.mirror {R : Ring} {p : Zw} (hp : Pr R p) : Pr R (mirror R p) := by
  refine ⟨?_, ?_, ?_⟩
  · intro e
    have := congrArg (Rg.mirror R) e
    rw [mirror_mirror] at this
    apply hp.1
    rw [this]; simp [Rg.mirror, zero]
  · rw [norm_mirror]; exact hp.2.1
  · intro x y e
    have e2 : p = mul R (Rg.mirror R x) (Rg.mirror R y) := by rw [← mirror_mul, ← e, mirror_mirror]
    have := hp.2.2 _ _ e2
    rwa [norm_mirror, norm_mirror] at this
theorem Pr.assoc {R : Ring} (h : Ok R) {p q : Zw} (hp : Pr R p) (hq : Pr R q) (k : Dvd R p q) : ∃ u, norm R u = 1 ∧ q = mul R p u := by
  obtain ⟨u, rfl⟩ := k
  rcases hq.2.2 _ _ rfl with e | e
  · exact absurd e hp.2.1
  · exact ⟨u, e, rfl⟩
theorem Pr.form_eq {R : Ring} (h : Ok R) {p q : Zw} (hp : Pr R p) (hq : Pr R q) (k : Dvd R p q) : Rg.form R p = Rg.form R q := by
  obtain ⟨u, hu, rfl⟩ := hp.assoc h hq k
  rw [form_times h p hu]
theorem pr_of_norm {R : Ring} (h : Ok R) {x : Zw} {p : Nat} (hp : WP p) (e : norm R x = (p : Int)) : Pr R x := by
  have p2 := hp.1
  refine ⟨?_, by omega, ?_⟩
  · rintro rfl; rw [norm_zero] at e; omega
  · rintro y z rfl
    rw [norm_mul] at e
    have ny := norm_nonneg h y
    have nz := norm_nonneg h z
    have e2 : (norm R y).toNat * (norm R z).toNat = p := by
      apply Int.ofNat_inj.mp
      rw [Int.natCast_mul, ← e]
      congr 1 <;> omega
    rcases hp.2 _ ⟨_, e2.symm⟩ with k | k
    · left; omega
    · right
      rw [k] at e2
      have : p * (norm R z).toNat = p * 1 := by omega
      have := Nat.eq_of_mul_eq_mul_left (by omega) this
      omega
theorem exists_pr {R : Ring} (h : Ok R) : ∀ (f : Nat) (x : Zw), x ≠ zero → norm R x ≠ 1 → norm R x < (f : Int) → ∃ p, Pr R p ∧ Dvd R p x
  | 0, x, h0, h1, hf => by have := norm_nonneg h x; omega
  | f + 1, x, h0, h1, hf => by
    by_cases k : ∃ y z, x = mul R y z ∧ norm R y ≠ 1 ∧ norm R z ≠ 1
    · obtain ⟨y, z, e, hy, hz⟩ := k
      have ny : y ≠ zero := by rintro rfl; exact h0 (by rw [e, zero_mul])
      have nz : z ≠ zero := by rintro rfl; exact h0 (by rw [e, mul_zero])
      have py := norm_pos h ny
      have pz := norm_pos h nz
      have lt : norm R y < norm R x := by
        rw [e, norm_mul]
        have := Int.mul_le_mul_of_nonneg_left (show 2 ≤ norm R z by omega) (show 0 ≤ norm R y by omega)
        omega
      obtain ⟨p, hp, hd⟩ := exists_pr h f y ny hy (by omega)
      exact ⟨p, hp, by rw [e]; exact hd.mul _⟩
    · refine ⟨x, ⟨h0, h1, ?_⟩, Dvd.refl ..⟩
      intro y z e
      by_cases hy : norm R y = 1
      · exact .inl hy
      · by_cases hz : norm R z = 1
        · exact .inr hz
        · exact absurd ⟨y, z, e, hy, hz⟩ k
theorem mul_whole (R : Ring) (n : Int) (x : Zw) : mul R (whole n) x = ⟨n * x.a, n * x.b⟩ := by
  simp only [mul, whole, Zw.mk.injEq]; constructor <;> grind
theorem norm_whole (R : Ring) (n : Int) : norm R (whole n) = n * n := by
  simp only [norm, whole]; grind
theorem dvd_whole {R : Ring} {n : Int} {x : Zw} : Dvd R (whole n) x ↔ n ∣ x.a ∧ n ∣ x.b := by
  constructor
  · rintro ⟨k, rfl⟩
    rw [mul_whole]
    exact ⟨⟨_, rfl⟩, ⟨_, rfl⟩⟩
  · rintro ⟨⟨a, ha⟩, ⟨b, hb⟩⟩
    refine ⟨⟨a, b⟩, ?_⟩
    rw [mul_whole]
    cases x; simp_all
theorem mul_mirror_whole (R : Ring) (x : Zw) : mul R x (mirror R x) = whole (norm R x) := mul_mirror R x
theorem dvd_norm (R : Ring) (x : Zw) : Dvd R x (whole (norm R x)) := ⟨mirror R x, (mul_mirror R x).symm⟩
theorem whole_mul (R : Ring) (m n : Int) : mul R (whole m) (whole n) = whole (m * n) := by
  rw [mul_whole]; simp [whole]
theorem wp_int {p : Nat} (hp : WP p) {a b : Int} (h : (p : Int) ∣ a * b) : (p : Int) ∣ a ∨ (p : Int) ∣ b := by
  have := Int.natAbs_dvd_natAbs.mpr h
  rw [Int.natAbs_mul] at this
  simp only [Int.natAbs_natCast] at this
  rcases hp.dvd_mul this with k | k
  · left; exact Int.natAbs_dvd_natAbs.mp (by rw [Int.natAbs_natCast]; exact k)
  · right; exact Int.natAbs_dvd_natAbs.mp (by rw [Int.natAbs_natCast]; exact k)
theorem Pr.over {R : Ring} (h : Ok R) {q : Zw} (hq : Pr R q) : ∀ (f n : Nat), n < f → 1 ≤ n → Dvd R q (whole n) → ∃ p, WP p ∧ p ∣ n ∧ Dvd R q (whole p)
  | 0, n, hf, _, _ => by omega
  | f + 1, n, hf, h1, hd => by
    rcases (show n = 1 ∨ 2 ≤ n by omega) with e | e
    · subst e
      exact absurd (norm_one_of_dvd h hd) hq.2.1
    · obtain ⟨p, hp, ⟨m, hm⟩⟩ := exists_wp e
      have p2 := hp.1
      have : whole (n : Int) = mul R (whole p) (whole m) := by rw [whole_mul, hm, Int.natCast_mul]
      rw [this] at hd
      rcases hq.dvd_mul h hd with k | k
      · exact ⟨p, hp, ⟨m, hm⟩, k⟩
      · have m1 : 1 ≤ m := by
          rcases (show m = 0 ∨ 1 ≤ m by omega) with h0 | h0
          · subst h0; omega
          · exact h0
        have := Nat.mul_le_mul_right m p2
        obtain ⟨p', a, b, c⟩ := Pr.over h hq f m (by omega) m1 k
        exact ⟨p', a, Nat.dvd_trans b ⟨p, by rw [hm, Nat.mul_comm]⟩, c⟩
theorem wp_sq {p n : Nat} (hp : WP p) (h : n ∣ p * p) : n = 1 ∨ n = p ∨ n = p * p := by
  have p2 := hp.1
  by_cases k : p ∣ n
  · obtain ⟨m, rfl⟩ := k
    have : m ∣ p := Nat.dvd_of_mul_dvd_mul_left (by omega) h
    rcases hp.2 _ this with e | e
    · right; left; rw [e, Nat.mul_one]
    · right; right; rw [e]
  · left
    have g : Nat.gcd n p = 1 := by
      rcases hp.2 _ (Nat.gcd_dvd_right n p) with e | e
      · exact e
      · have := Nat.gcd_dvd_left n p
        rw [e] at this
        exact absurd this k
    have h1 : n ∣ p := Nat.Coprime.dvd_of_dvd_mul_left g h
    rcases hp.2 _ h1 with e | e
    · exact e
    · exact absurd (by rw [e]; exact Nat.dvd_refl _) k
theorem norm_over {R : Ring} (h : Ok R) {x : Zw} {p : Nat} (hp : WP p) (k : Dvd R x (whole p)) : norm R x = 1 ∨ norm R x = (p : Int) ∨ norm R x = (p : Int) * (p : Int) := by
  have := norm_dvd k
  rw [norm_whole] at this
  have n := norm_nonneg h x
  have := Int.natAbs_dvd_natAbs.mpr this
  rw [Int.natAbs_mul, Int.natAbs_natCast] at this
  rcases wp_sq hp this with e | e | e
  · left; omega
  · right; left; omega
  · right; right
    have : ((p * p : Nat) : Int) = (p : Int) * (p : Int) := Int.natCast_mul ..
    omega
theorem over_unique {R : Ring} (h : Ok R) {q : Zw} (hq : Pr R q) {p p' : Nat} (hp : WP p) (hp' : WP p') (k : Dvd R q (whole p)) (k' : Dvd R q (whole p')) : p = p' := by
  have h1 := norm_over h hp k
  have h2 := norm_over h hp' k'
  have q1 := hq.2.1
  have pp : ((p * p : Nat) : Int) = (p : Int) * (p : Int) := Int.natCast_mul ..
  have pp' : ((p' * p' : Nat) : Int) = (p' : Int) * (p' : Int) := Int.natCast_mul ..
  have d : p ∣ p' * p' := by
    have : p ∣ (norm R q).natAbs := by
      rcases h1 with e | e | e
      · omega
      · rw [e]; exact Nat.dvd_refl _
      · rw [e, Int.natAbs_mul]; exact Nat.dvd_mul_right ..
    refine Nat.dvd_trans this ?_
    rcases h2 with e | e | e
    · omega
    · rw [e, Int.natAbs_natCast]; exact Nat.dvd_mul_right ..
    · rw [e, Int.natAbs_mul]; exact Nat.dvd_refl _
  rcases hp'.2 p (by rcases hp.dvd_mul d with k | k <;> exact k) with e | e
  · have := hp.1; omega
  · exact e
end Rf
set_option linter.unusedVariables false
namespace Rf
open Rg
def IsOver (R : Ring) (p : Nat) (l : List Zw) : Prop := Sorted l ∧ ∀ z, z ∈ l ↔ Pr R z ∧ form R z = z ∧ Dvd R z (whole p)
theorem IsOver.unique {R : Ring} {p : Nat} {l k : List Zw} (h1 : IsOver R p l) (h2 : IsOver R p k) : l = k :=
  sorted_unique h1.1 h2.1 fun z => by rw [h1.2, h2.2]
theorem andMirror_is {R : Ring} (h : Ok R) {g : Zw} {p : Nat} (hp : WP p) (e : norm R g = (p : Int)) : IsOver R p (andMirror R g) := by
  have hg := pr_of_norm h hp e
  have hm : Pr R (mirror R g) := hg.mirror
  constructor
  · unfold andMirror
    exact putIn_sorted (by simp [Sorted])
  · intro z
    unfold andMirror
    rw [putIn_mem, List.mem_singleton]
    have pe : whole (p : Int) = mul R g (mirror R g) := by rw [mul_mirror, e]; rfl
    constructor
    · rintro (rfl | rfl)
      · refine ⟨hg.form h, form_form h _, ?_⟩
        rw [dvd_form h, pe]; exact (Dvd.refl ..).mul _
      · refine ⟨hm.form h, form_form h _, ?_⟩
        rw [dvd_form h, pe]; exact (Dvd.refl ..).mul' _
    · rintro ⟨h1, h2, h3⟩
      rw [pe] at h3
      rcases h1.dvd_mul h h3 with k | k
      · left; rw [← h2]; exact h1.form_eq h hg k
      · right; rw [← h2]; exact h1.form_eq h hm k
theorem inert_is {R : Ring} (h : Ok R) {p : Nat} (hq : Pr R (whole p)) : IsOver R p [form R (whole p)] := by
  constructor
  · simp [Sorted]
  · intro z
    rw [List.mem_singleton]
    constructor
    · rintro rfl
      exact ⟨hq.form h, form_form h _, by rw [dvd_form h]; exact Dvd.refl ..⟩
    · rintro ⟨h1, h2, h3⟩
      rw [← h2]; exact h1.form_eq h hq h3
theorem inert_of {R : Ring} (h : Ok R) {p : Nat} (hp : WP p) (no : ∀ x, norm R x ≠ (p : Int)) : Pr R (whole p) := by
  have p2 := hp.1
  refine ⟨?_, ?_, ?_⟩
  · intro e
    have := congrArg Zw.a e
    simp only [whole, zero] at this
    omega
  · rw [norm_whole]
    intro e
    have := Int.mul_le_mul_of_nonneg_left (show (2 : Int) ≤ p by omega) (show (0 : Int) ≤ p by omega)
    omega
  · intro x y e
    have dx : Dvd R x (whole p) := ⟨y, e⟩
    rcases norm_over h hp dx with k | k | k
    · exact .inl k
    · exact absurd k (no x)
    · right
      have := norm_mul R x y
      rw [← e, norm_whole, k] at this
      have pp : (p : Int) * p ≠ 0 := by
        intro e0
        rcases Int.mul_eq_zero.mp e0 with e0 | e0 <;> omega
      have e2 : (p : Int) * p * 1 = (p : Int) * p * norm R y := by rw [Int.mul_one]; exact this
      exact (Int.eq_of_mul_eq_mul_left pp e2).symm
theorem norm_shift (R : Ring) (s : Int) : norm R ⟨-s, 1⟩ = s * s - R.t * s + R.c := by
  simp only [norm]; grind
theorem not_dvd_shift {R : Ring} {p : Nat} (hp : WP p) {a b : Int} (hb : b = 1 ∨ b = -1) : ¬ Dvd R (whole p) ⟨a, b⟩ := by
  intro k
  have := (dvd_whole.mp k).2
  dsimp only at this
  have := Int.natAbs_dvd_natAbs.mpr this
  have p2 := hp.1
  have := Nat.le_of_dvd (by omega) this
  omega
theorem mod_inv {p : Nat} (hp : WP p) {b : Int} (hb : ¬ (p : Int) ∣ b) : ∃ k : Int, (p : Int) ∣ b * k - 1 := by
  -- by Bezout over the whole numbers, the ring 0's own gcd serves
  have h0 : Ok ⟨0, 1⟩ := .inl ⟨rfl, rfl⟩
  have hg : Nat.gcd b.natAbs p = 1 := by
    rcases hp.2 _ (Nat.gcd_dvd_right b.natAbs p) with e | e
    · exact e
    · have := Nat.gcd_dvd_left b.natAbs p
      rw [e] at this
      exact absurd (Int.natAbs_dvd_natAbs.mp (by rw [Int.natAbs_natCast]; exact this)) hb
  -- strong induction for Bezout
  have bez : ∀ (n a c : Nat), a < n → ∃ x y : Int, (Nat.gcd a c : Int) = a * x + c * y := by
    intro n
    induction n with
    | zero => intro a c h; omega
    | succ n ih =>
      intro a c h
      rcases Nat.eq_zero_or_pos a with e | e
      · subst e
        exact ⟨0, 1, by simp⟩
      · obtain ⟨x, y, hxy⟩ := ih (c % a) a (by have := Nat.mod_lt c e; omega)
        refine ⟨y - (c / a : Nat) * x, x, ?_⟩
        rw [Nat.gcd_rec, hxy]
        have hc : (c : Int) = a * (c / a : Nat) + (c % a : Nat) := by
          have := Nat.div_add_mod c a
          have h2 : ((a * (c / a) + c % a : Nat) : Int) = (c : Int) := by rw [this]
          rw [← h2]
          rw [Int.natCast_add, Int.natCast_mul]
        generalize ((c / a : Nat) : Int) = Q at *
        generalize ((c % a : Nat) : Int) = S at *
        rw [hc]; grind
  obtain ⟨x, y, e⟩ := bez (b.natAbs + 1) b.natAbs p (by omega)
  rw [hg] at e
  rcases Int.natAbs_eq b with k | k
  · refine ⟨x, -y, ?_⟩
    rw [k]
    generalize (b.natAbs : Int) = B at *
    simp only [Int.natCast_one] at e
    grind
  · refine ⟨-x, -y, ?_⟩
    rw [k]
    generalize (b.natAbs : Int) = B at *
    simp only [Int.natCast_one] at e
    grind
theorem root_of_norm {R : Ring} (h : Ok R) {p : Nat} (hp : WP p) {x : Zw} (e : norm R x = (p : Int)) : ∃ s : Nat, s < p ∧ norm R ⟨-(s : Int), 1⟩ % (p : Int) = 0 := by
  have p2 := hp.1
  have hb : ¬ (p : Int) ∣ x.b := by
    intro hb
    obtain ⟨b, hb⟩ := hb
    have ha : (p : Int) ∣ x.a * x.a := by
      refine ⟨1 - R.t * x.a * b - R.c * b * x.b, ?_⟩
      simp only [norm] at e
      rw [hb] at e ⊢
      grind
    have ha : (p : Int) ∣ x.a := by rcases wp_int hp ha with k | k <;> exact k
    obtain ⟨a, ha⟩ := ha
    have : (p : Int) * 1 = p * (p * norm R ⟨a, b⟩) := by
      rw [Int.mul_one]
      conv => lhs; rw [← e]
      simp only [norm]
      rw [ha, hb]; grind
    have := Int.eq_of_mul_eq_mul_left (show (p : Int) ≠ 0 by omega) this
    have d : (p : Int) ∣ 1 := ⟨_, this⟩
    have := Int.le_of_dvd (by decide) d
    omega
  obtain ⟨k, q, hk⟩ := mod_inv hp hb
  refine ⟨((-(x.a * k)) % (p : Int)).toNat, ?_, ?_⟩
  · have := Int.emod_lt_of_pos (-(x.a * k)) (show (0 : Int) < p by omega)
    omega
  · have nn := Int.emod_nonneg (-(x.a * k)) (show (p : Int) ≠ 0 by omega)
    have e1 : ((((-(x.a * k)) % (p : Int)).toNat : Nat) : Int) = (-(x.a * k)) % (p : Int) := by omega
    rw [e1]
    apply Int.emod_eq_zero_of_dvd
    have md := Int.mul_ediv_add_emod (-(x.a * k)) (p : Int)
    generalize (-(x.a * k)) % (p : Int) = s at *
    generalize (-(x.a * k)) / (p : Int) = d at *
    rw [norm_shift]
    -- s = -a k - p d; b k = 1 + p q; k² N(x) = ...
    have s1 : s = -(x.a * k) - p * d := by omega
    have b1 : x.b * k = 1 + p * q := by omega
    simp only [norm] at e
    refine ⟨k * k + d * (2 * (x.a * k) + p * d) + R.t * d - R.t * (x.a * k) * q - R.c * q * (2 + p * q), ?_⟩
    have e2 : (x.a * k) * (x.a * k) + R.t * (x.a * k) * (x.b * k) + R.c * (x.b * k) * (x.b * k) = p * (k * k) := by
      rw [← e]; grind
    rw [b1] at e2
    rw [s1]
    generalize x.a * k = A at *
    generalize k * k = K at *
    clear e hk b1 s1
    grind
theorem split_gcd {R : Ring} (h : Ok R) {p : Nat} (hp : WP p) {x : Zw} (nd : ¬ Dvd R (whole p) x) (hN : (p : Int) ∣ norm R x) : norm R (gcd R (whole p) x).d = (p : Int) := by
  have p2 := hp.1
  obtain ⟨g1, g2, g3, g4, g5⟩ := gcd_is h (whole p) x
  generalize gcd R (whole p) x = g at *
  rcases norm_over h hp g2 with k | k | k
  · exfalso
    -- p divides the mirror of x
    have hd : Dvd R (whole p) (mul R (mirror R x) g.d) := by
      rw [g1, mul_add]
      refine Dvd.add (((Dvd.refl ..).mul' _).mul' _) ?_
      have : mul R (mirror R x) (mul R g.v x) = mul R g.v (mul R x (mirror R x)) := by
        simp only [mul, Zw.mk.injEq]; constructor <;> grind
      rw [this, mul_mirror_whole]
      refine Dvd.mul' ?_ _
      rw [dvd_whole]
      exact ⟨hN, by simp [whole]⟩
    have hd2 : Dvd R (whole p) (mirror R x) := by
      obtain ⟨w, hw⟩ := hd
      refine ⟨mul R w (mirror R g.d), ?_⟩
      rw [← mul_assoc, ← hw, mul_assoc, unit_mirror k, mul_one]
    apply nd
    rw [dvd_whole] at hd2 ⊢
    simp only [mirror] at hd2
    obtain ⟨d1, d2⟩ := hd2
    have db : (p : Int) ∣ x.b := by
      have := Int.dvd_neg.mp d2
      exact this
    refine ⟨?_, db⟩
    have : x.a = x.a + R.t * x.b - R.t * x.b := by omega
    rw [this]
    exact Int.dvd_sub d1 (Int.dvd_trans db (Int.dvd_mul_left ..))
  · exact k
  · exfalso
    obtain ⟨u, hu, e⟩ := dvd_same_norm h g2 (by rw [k, norm_whole]) (by
      intro e0
      have := congrArg Zw.a e0
      simp only [whole, zero] at this
      omega)
    apply nd
    have : Dvd R (whole p) g.d := ⟨mirror R u, by rw [e, mul_assoc, unit_mirror hu, mul_one]⟩
    exact this.trans g3
theorem over_is {R : Ring} (h : Ok R) {p : Nat} (hp : WP p) : IsOver R p (over R p) := by
  unfold over
  split
  · next s hs =>
    have h1 := List.find?_some hs
    have h1 : norm R ⟨-(s : Int), 1⟩ % (p : Int) = 0 := by simpa using h1
    exact andMirror_is h hp (split_gcd h hp (not_dvd_shift hp (.inl rfl)) (Int.dvd_of_emod_eq_zero h1))
  · next hs =>
    apply inert_is h
    apply inert_of h hp
    intro x e
    obtain ⟨s, h1, h2⟩ := root_of_norm h hp e
    have := List.find?_eq_none.mp hs s (List.mem_range.mpr h1)
    simp [h2] at this
theorem overIn_is {R : Ring} (h : Ok R) {p : Nat} (hp : WP p) {x : Zw} : overIn R x p = (over R p).filter fun (q : Zw) => divides R q x := by
  unfold overIn
  simp only
  split
  · next e => rw [(andMirror_is h hp e).unique (over_is h hp)]
  · rfl
theorem over_cases {R : Ring} (h : Ok R) {p : Nat} (hp : WP p) :
    (Pr R (whole p) ∧ over R p = [form R (whole p)] ∧ norm R (form R (whole p)) = (p : Int) * p) ∨
    (∃ g, norm R g = (p : Int) ∧ over R p = andMirror R g) := by
  by_cases k : ∃ g, norm R g = (p : Int)
  · right
    obtain ⟨g, hg⟩ := k
    exact ⟨g, hg, (over_is h hp).unique (andMirror_is h hp hg)⟩
  · left
    have := inert_of h hp (fun x e => k ⟨x, e⟩)
    exact ⟨this, (over_is h hp).unique (inert_is h this), by rw [norm_form h, norm_whole]⟩
end Rf
set_option linter.unusedVariables false
namespace Rf
open Rg
theorem pow_succ' (R : Ring) (x : Zw) (n : Nat) : pow R x (n + 1) = mul R x (pow R x n) := by
  show mul R (pow R x n) x = _; rw [mul_comm]
theorem often_is {R : Ring} (h : Ok R) {p : Zw} (hp : Pr R p) : ∀ (f : Nat) (x : Zw), x ≠ zero → norm R x < 2 ^ f →
    x = mul R (pow R p (often R f x p).1) (often R f x p).2 ∧ ¬ Dvd R p (often R f x p).2 ∧ (Dvd R p x → 1 ≤ (often R f x p).1)
  | 0, x, h0, hf => by have := norm_pos h h0; omega
  | f + 1, x, h0, hf => by
    unfold often
    by_cases k : divides R p x = true
    · rw [if_pos k]
      obtain ⟨y, rfl⟩ := (divides_iff h).mp k
      rw [(rest_dvd h hp.1).2]
      have y0 : y ≠ zero := by rintro rfl; exact h0 (mul_zero ..)
      have p2 := hp.norm_ge h
      have yn := norm_pos h y0
      have yf : norm R y < 2 ^ f := by
        rw [norm_mul, Int.pow_succ] at hf
        have := Int.mul_le_mul_of_nonneg_right p2 (show 0 ≤ norm R y by omega)
        omega
      obtain ⟨a, b, c⟩ := often_is h hp f y y0 yf
      refine ⟨?_, b, fun _ => by dsimp only; omega⟩
      dsimp only
      rw [pow_succ', mul_assoc, ← a]
    · rw [if_neg k]
      refine ⟨(one_mul ..).symm, ?_, ?_⟩
      · intro k2; exact k ((divides_iff h).mpr k2)
      · intro k2; exact absurd ((divides_iff h).mpr k2) k
theorem mult_unique {R : Ring} (h : Ok R) {p : Zw} (hp : p ≠ zero) : ∀ {e e' : Nat} {y y' : Zw}, mul R (pow R p e) y = mul R (pow R p e') y' → ¬ Dvd R p y → ¬ Dvd R p y' → e = e' ∧ y = y'
  | 0, 0, y, y', k, _, _ => by
    simp only [pow, one_mul] at k
    exact ⟨rfl, k⟩
  | 0, e' + 1, y, y', k, a, b => by
    simp only [pow, one_mul] at k
    exact absurd (by rw [k, mul_comm R (pow R p e'), mul_assoc]; exact (Dvd.refl ..).mul _) a
  | e + 1, 0, y, y', k, a, b => by
    simp only [pow, one_mul] at k
    exact absurd (by rw [← k, mul_comm R (pow R p e), mul_assoc]; exact (Dvd.refl ..).mul _) b
  | e + 1, e' + 1, y, y', k, a, b => by
    rw [pow_succ', pow_succ', mul_assoc, mul_assoc] at k
    obtain ⟨h1, h2⟩ := mult_unique h hp (mul_cancel h hp k) a b
    exact ⟨by omega, h2⟩
theorem Pr.dvd_pow {R : Ring} (h : Ok R) {p q : Zw} (hp : Pr R p) : ∀ (n : Nat), Dvd R p (pow R q n) → Dvd R p q
  | 0, k => absurd (norm_one_of_dvd h k) hp.2.1
  | n + 1, k => by
    rcases hp.dvd_mul h (show Dvd R p (mul R (pow R q n) q) from k) with k | k
    · exact Pr.dvd_pow h hp n k
    · exact k
theorem sooner_iff (R : Ring) (x y : Zw) : sooner R x y = true ↔ norm R x < norm R y ∨ (norm R x = norm R y ∧ before x y = true) := by
  simp [sooner]
theorem sooner_total (R : Ring) (x y : Zw) : x = y ∨ sooner R x y = true ∨ sooner R y x = true := by
  rw [sooner_iff, sooner_iff]
  rcases before_total x y with k | k | k
  · exact .inl k
  · right
    rcases Int.lt_trichotomy (norm R x) (norm R y) with e | e | e
    · exact .inl (.inl e)
    · exact .inl (.inr ⟨e, k⟩)
    · exact .inr (.inl e)
  · right
    rcases Int.lt_trichotomy (norm R x) (norm R y) with e | e | e
    · exact .inl (.inl e)
    · exact .inr (.inr ⟨e.symm, k⟩)
    · exact .inr (.inl e)
theorem sooner_trans {R : Ring} {x y z : Zw} (h1 : sooner R x y = true) (h2 : sooner R y z = true) : sooner R x z = true := by
  rw [sooner_iff] at *
  rcases h1 with h1 | ⟨h1, k1⟩
  · left; rcases h2 with h2 | ⟨h2, k2⟩ <;> omega
  · rcases h2 with h2 | ⟨h2, k2⟩
    · left; omega
    · right; exact ⟨by omega, before_trans k1 k2⟩
theorem sooner_asymm {R : Ring} {x y : Zw} (h1 : sooner R x y = true) (h2 : sooner R y x = true) : False := by
  rw [sooner_iff] at *
  rcases h1 with h1 | ⟨h1, k1⟩
  · rcases h2 with h2 | ⟨h2, k2⟩ <;> omega
  · rcases h2 with h2 | ⟨h2, k2⟩
    · omega
    · exact before_asymm k1 k2
theorem sooner_irrefl {R : Ring} {x : Zw} (h1 : sooner R x x = true) : False := sooner_asymm h1 h1
def SSorted (R : Ring) (l : List Zw) : Prop := l.Pairwise fun x y => sooner R x y = true
theorem ssorted_unique {R : Ring} : ∀ {l k : List Zw}, SSorted R l → SSorted R k → (∀ z, z ∈ l ↔ z ∈ k) → l = k
  | [], [], _, _, _ => rfl
  | [], b :: k, _, _, h => by have := (h b).mpr (List.mem_cons_self ..); cases this
  | a :: l, [], _, _, h => by have := (h a).mp (List.mem_cons_self ..); cases this
  | a :: l, b :: k, h1, h2, h => by
    obtain ⟨a1, a2⟩ := List.pairwise_cons.mp h1
    obtain ⟨b1, b2⟩ := List.pairwise_cons.mp h2
    have e : a = b := by
      rcases List.mem_cons.mp ((h a).mp (List.mem_cons_self ..)) with e | e
      · exact e
      · rcases List.mem_cons.mp ((h b).mpr (List.mem_cons_self ..)) with e' | e'
        · exact e'.symm
        · exact (sooner_asymm (a1 b e') (b1 a e)).elim
    subst e
    congr 1
    refine ssorted_unique a2 b2 ?_
    intro z
    have := h z
    simp only [List.mem_cons] at this
    constructor
    · intro hz
      rcases this.mp (.inr hz) with rfl | k
      · exact (sooner_irrefl (a1 z hz)).elim
      · exact k
    · intro hz
      rcases this.mpr (.inr hz) with rfl | k
      · exact (sooner_irrefl (b1 z hz)).elim
      · exact k
theorem sortIn_mem {R : Ring} {x z : Zw} : ∀ {l : List Zw}, z ∈ sortIn R x l ↔ z = x ∨ z ∈ l
  | [] => by simp [sortIn]
  | y :: l => by
    unfold sortIn
    split
    · simp
    · rw [List.mem_cons, sortIn_mem (l := l), List.mem_cons]
      constructor
      · rintro (h | h | h) <;> simp [h]
      · rintro (h | h | h) <;> simp [h]
theorem sortIn_sorted {R : Ring} {x : Zw} : ∀ {l : List Zw}, SSorted R l → x ∉ l → SSorted R (sortIn R x l)
  | [], _, _ => by simp [sortIn, SSorted]
  | y :: l, h, hx => by
    unfold sortIn
    unfold SSorted at *
    split
    · next h2 =>
      refine List.pairwise_cons.mpr ⟨?_, h⟩
      intro z hz
      rcases List.mem_cons.mp hz with rfl | hz
      · exact h2
      · exact sooner_trans h2 ((List.pairwise_cons.mp h).1 z hz)
    · next h2 =>
      obtain ⟨h3, h4⟩ := List.pairwise_cons.mp h
      refine List.pairwise_cons.mpr ⟨?_, sortIn_sorted h4 (fun k => hx (List.mem_cons_of_mem _ k))⟩
      intro z hz
      rcases sortIn_mem.mp hz with rfl | hz
      · rcases sooner_total R z y with k | k | k
        · exact absurd (k ▸ List.mem_cons_self ..) hx
        · exact absurd k h2
        · exact k
      · exact h3 z hz
theorem fold_sortIn {R : Ring} : ∀ (l acc : List Zw), SSorted R acc → l.Nodup → (∀ z ∈ l, z ∉ acc) →
    SSorted R (l.foldl (fun (m : List Zw) (p : Zw) => sortIn R p m) acc) ∧ ∀ z, z ∈ l.foldl (fun (m : List Zw) (p : Zw) => sortIn R p m) acc ↔ z ∈ acc ∨ z ∈ l
  | [], acc, h, _, _ => ⟨h, by simp⟩
  | a :: l, acc, h, hn, hd => by
    rw [List.foldl_cons]
    obtain ⟨n1, n2⟩ := List.nodup_cons.mp hn
    obtain ⟨h1, h2⟩ := fold_sortIn (R := R) l (sortIn R a acc) (sortIn_sorted h (hd a (List.mem_cons_self ..))) n2 (by
      intro z hz k
      rcases sortIn_mem.mp k with rfl | k
      · exact n1 hz
      · exact hd z (List.mem_cons_of_mem _ hz) k)
    refine ⟨h1, ?_⟩
    intro z
    rw [h2, sortIn_mem, List.mem_cons]
    constructor
    · rintro ((h | h) | h) <;> simp [h]
    · rintro (h | h | h) <;> simp [h]
def IsPrimes (R : Ring) (x : Zw) (l : List Zw) : Prop := SSorted R l ∧ ∀ z, z ∈ l ↔ Pr R z ∧ form R z = z ∧ Dvd R z x
theorem IsPrimes.unique {R : Ring} {x : Zw} {l k : List Zw} (h1 : IsPrimes R x l) (h2 : IsPrimes R x k) : l = k :=
  ssorted_unique h1.1 h2.1 fun z => by rw [h1.2, h2.2]
def primeList (R : Ring) (x : Zw) : List Zw := ((primesOf (norm R x).natAbs).flatMap (overIn R x)).foldl (fun (m : List Zw) (p : Zw) => sortIn R p m) []
theorem primeList_is {R : Ring} (h : Ok R) {x : Zw} (hx : x ≠ zero) (hs : norm R x < 2 ^ 40) : IsPrimes R x (primeList R x) := by
  have np := norm_pos h hx
  have n0 : (norm R x).natAbs ≠ 0 := by omega
  obtain ⟨p1, p2⟩ := primesOf_is n0 (by
    have : ((2 ^ 40 : Nat) : Int) = 2 ^ 40 := by decide
    omega)
  have memO : ∀ p ∈ primesOf (norm R x).natAbs, ∀ z, z ∈ overIn R x p ↔ (Pr R z ∧ form R z = z ∧ Dvd R z (whole p)) ∧ Dvd R z x := by
    intro p hp z
    have wp := ((p2 p).mp hp).1
    rw [overIn_is h wp, List.mem_filter, (over_is h wp).2, divides_iff h]
  have nd : ((primesOf (norm R x).natAbs).flatMap (overIn R x)).Nodup := by
    rw [List.Nodup, List.pairwise_flatMap]
    constructor
    · intro p hp
      have wp := ((p2 p).mp hp).1
      rw [overIn_is h wp]
      refine List.Pairwise.filter _ ?_
      refine (over_is h wp).1.imp ?_
      intro a b k e
      subst e
      exact before_irrefl k
    · refine (p1.imp_of_mem (S := fun a b => ∀ u ∈ overIn R x a, ∀ v ∈ overIn R x b, u ≠ v) ?_)
      intro a b ha hb k u hu v hv e
      subst e
      have wa := ((p2 a).mp ha).1
      have wb := ((p2 b).mp hb).1
      have ua := (memO a ha u).mp hu
      have ub := (memO b hb u).mp hv
      have := over_unique h ua.1.1 wa wb ua.1.2.2 ub.1.2.2
      omega
  have F := fold_sortIn (R := R) _ [] List.Pairwise.nil nd (by simp)
  refine ⟨F.1, ?_⟩
  intro z
  have k := F.2 z
  simp only [List.not_mem_nil, false_or, List.mem_flatMap] at k
  rw [show primeList R x = ((primesOf (norm R x).natAbs).flatMap (overIn R x)).foldl (fun (m : List Zw) (p : Zw) => sortIn R p m) [] from rfl, k]
  constructor
  · rintro ⟨p, hp, hz⟩
    obtain ⟨⟨a, b, c⟩, d⟩ := (memO p hp z).mp hz
    exact ⟨a, b, d⟩
  · rintro ⟨a, b, c⟩
    have d := c.trans (dvd_norm R x)
    have e : norm R x = (((norm R x).natAbs : Nat) : Int) := by omega
    rw [e] at d
    obtain ⟨p, w1, w2, w3⟩ := a.over h ((norm R x).natAbs + 1) _ (by omega) (by omega) d
    have hp := (p2 p).mpr ⟨w1, w2⟩
    exact ⟨p, hp, (memO p hp z).mpr ⟨⟨a, b, w3⟩, c⟩⟩
def prodL (R : Ring) : List (Zw × Nat) → Zw
  | [] => one
  | q :: l => mul R (pow R q.1 q.2) (prodL R l)
structure IsFactors (R : Ring) (x u : Zw) (L : List (Zw × Nat)) : Prop where
  sorted : SSorted R (L.map (·.1))
  primes : ∀ q ∈ L, Pr R q.1 ∧ form R q.1 = q.1 ∧ 1 ≤ q.2
  unit : norm R u = 1
  prod : x = mul R (prodL R L) u
theorem prodL_append (R : Ring) : ∀ (l k : List (Zw × Nat)), prodL R (l ++ k) = mul R (prodL R l) (prodL R k)
  | [], k => (one_mul ..).symm
  | q :: l, k => by
    show mul R (pow R q.1 q.2) (prodL R (l ++ k)) = mul R (mul R (pow R q.1 q.2) (prodL R l)) (prodL R k)
    rw [prodL_append R l k, mul_assoc]
theorem prodL_dvd {R : Ring} (h : Ok R) {p : Zw} (hp : Pr R p) : ∀ {L : List (Zw × Nat)}, (∀ q ∈ L, Pr R q.1) → Dvd R p (prodL R L) → ∃ q ∈ L, Rg.form R p = Rg.form R q.1
  | [], _, k => absurd (norm_one_of_dvd h k) hp.2.1
  | q :: L, hL, k => by
    rcases hp.dvd_mul h (show Dvd R p (mul R (pow R q.1 q.2) (prodL R L)) from k) with k | k
    · exact ⟨q, List.mem_cons_self .., hp.form_eq h (hL q (List.mem_cons_self ..)) (hp.dvd_pow h _ k)⟩
    · obtain ⟨q', h1, h2⟩ := prodL_dvd h hp (fun q hq => hL q (List.mem_cons_of_mem _ hq)) k
      exact ⟨q', List.mem_cons_of_mem _ h1, h2⟩
theorem dvd_prodL {R : Ring} : ∀ {L : List (Zw × Nat)} {q : Zw × Nat}, q ∈ L → Dvd R (pow R q.1 q.2) (prodL R L)
  | q' :: L, q, hq => by
    rcases List.mem_cons.mp hq with rfl | hq
    · exact (Dvd.refl ..).mul _
    · exact (dvd_prodL hq).mul' _
theorem IsFactors.isPrimes {R : Ring} (h : Ok R) {x u : Zw} {L : List (Zw × Nat)} (F : IsFactors R x u L) : IsPrimes R x (L.map (·.1)) := by
  refine ⟨F.sorted, ?_⟩
  intro z
  constructor
  · intro hz
    obtain ⟨q, hq, rfl⟩ := List.mem_map.mp hz
    obtain ⟨a, b, c⟩ := F.primes q hq
    refine ⟨a, b, ?_⟩
    rw [F.prod]
    refine Dvd.mul (Dvd.trans ?_ (dvd_prodL hq)) _
    obtain ⟨n, hn⟩ : ∃ n, q.2 = n + 1 := ⟨q.2 - 1, by omega⟩
    rw [hn, pow_succ']
    exact (Dvd.refl ..).mul _
  · rintro ⟨a, b, c⟩
    rw [F.prod] at c
    rcases a.dvd_mul h c with k | k
    · obtain ⟨q, hq, e⟩ := prodL_dvd h a (fun q hq => (F.primes q hq).1) k
      rw [b, (F.primes q hq).2.1] at e
      rw [e]
      exact List.mem_map.mpr ⟨q, hq, rfl⟩
    · have : norm R z = 1 := norm_one_of_dvd h (k.trans ⟨mirror R u, (unit_mirror F.unit).symm⟩)
      exact absurd this a.2.1
theorem IsFactors.mult {R : Ring} (h : Ok R) {x u : Zw} {L : List (Zw × Nat)} (F : IsFactors R x u L) {q : Zw × Nat} (hq : q ∈ L) : ∃ y, x = mul R (pow R q.1 q.2) y ∧ ¬ Dvd R q.1 y := by
  obtain ⟨s, t, e⟩ := List.append_of_mem hq
  have hp := (F.primes q hq)
  refine ⟨mul R (mul R (prodL R s) (prodL R t)) u, ?_, ?_⟩
  · conv => lhs; rw [F.prod, e, prodL_append]
    show mul R (mul R (prodL R s) (mul R (pow R q.1 q.2) (prodL R t))) u = _
    generalize prodL R s = S
    generalize prodL R t = T
    generalize pow R q.1 q.2 = P
    simp only [mul, Zw.mk.injEq]; constructor <;> grind
  · have sd := F.sorted
    rw [e, List.map_append, List.map_cons, SSorted, List.pairwise_append] at sd
    obtain ⟨s1, s2, s3⟩ := sd
    obtain ⟨s4, s5⟩ := List.pairwise_cons.mp s2
    have hs : ∀ q' ∈ s, Pr R q'.1 ∧ form R q'.1 = q'.1 := fun q' k => by
      have := F.primes q' (by rw [e]; exact List.mem_append.mpr (.inl k)); exact ⟨this.1, this.2.1⟩
    have ht : ∀ q' ∈ t, Pr R q'.1 ∧ form R q'.1 = q'.1 := fun q' k => by
      have := F.primes q' (by rw [e]; exact List.mem_append.mpr (.inr (List.mem_cons_of_mem _ k))); exact ⟨this.1, this.2.1⟩
    intro k
    rcases hp.1.dvd_mul h k with k | k
    · rcases hp.1.dvd_mul h k with k | k
      · obtain ⟨q', h1, h2⟩ := prodL_dvd h hp.1 (fun q hq => (hs q hq).1) k
        rw [hp.2.1, (hs q' h1).2] at h2
        have := s3 q'.1 (List.mem_map.mpr ⟨q', h1, rfl⟩) q.1 (List.mem_cons_self ..)
        rw [h2] at this
        exact sooner_irrefl this
      · obtain ⟨q', h1, h2⟩ := prodL_dvd h hp.1 (fun q hq => (ht q hq).1) k
        rw [hp.2.1, (ht q' h1).2] at h2
        have := s4 q'.1 (List.mem_map.mpr ⟨q', h1, rfl⟩)
        rw [h2] at this
        exact sooner_irrefl this
    · have : norm R q.1 = 1 := norm_one_of_dvd h (k.trans ⟨mirror R u, (unit_mirror F.unit).symm⟩)
      exact hp.1.2.1 this
theorem pairs_unique {α β : Type} : ∀ {l k : List (α × β)}, l.map (·.1) = k.map (·.1) → (∀ a b c, (a, b) ∈ l → (a, c) ∈ k → b = c) → l = k
  | [], [], _, _ => rfl
  | [], _ :: _, e, _ => by simp at e
  | _ :: _, [], e, _ => by simp at e
  | (a, b) :: l, (a', c) :: k, e, h => by
    simp only [List.map_cons, List.cons.injEq] at e
    obtain ⟨e1, e2⟩ := e
    subst e1
    rw [h a b c (List.mem_cons_self ..) (List.mem_cons_self ..)]
    congr 1
    exact pairs_unique e2 fun a b c h1 h2 => h a b c (List.mem_cons_of_mem _ h1) (List.mem_cons_of_mem _ h2)
theorem IsFactors.unique {R : Ring} (h : Ok R) {x u u' : Zw} {L L' : List (Zw × Nat)} (hx : x ≠ zero) (F : IsFactors R x u L) (F' : IsFactors R x u' L') : u = u' ∧ L = L' := by
  have e1 : L = L' := by
    refine pairs_unique ((F.isPrimes h).unique (F'.isPrimes h)) ?_
    intro a b c h1 h2
    obtain ⟨y, k1, k2⟩ := F.mult h h1
    obtain ⟨y', k1', k2'⟩ := F'.mult h h2
    exact (mult_unique h (F.primes _ h1).1.1 (k1.symm.trans k1') k2 k2').1
  subst e1
  refine ⟨?_, rfl⟩
  have := F.prod.symm.trans F'.prod
  refine mul_cancel h ?_ this
  intro e
  apply hx
  rw [F.prod, e, zero_mul]
theorem fold_often {R : Ring} (h : Ok R) {x : Zw} (hx : x ≠ zero) (hs : norm R x < 2 ^ 128) : ∀ (l : List Zw) (y : Zw) (acc : List (Zw × Nat)),
    SSorted R (acc.map (·.1) ++ l) → (∀ z ∈ l, Pr R z ∧ form R z = z ∧ Dvd R z x) → (∀ q ∈ acc, Pr R q.1 ∧ form R q.1 = q.1 ∧ 1 ≤ q.2 ∧ ¬ Dvd R q.1 y) → x = mul R (prodL R acc) y →
    (∀ z, Pr R z → Dvd R z y → form R z ∈ l) →
    IsFactors R x (l.foldl (fun (f : Factors) (p : Zw) => let r := often R 128 f.unit p
      ⟨r.2, f.primes ++ [(p, r.1)]⟩) ⟨y, acc⟩).unit (l.foldl (fun (f : Factors) (p : Zw) => let r := often R 128 f.unit p
      ⟨r.2, f.primes ++ [(p, r.1)]⟩) ⟨y, acc⟩).primes
  | [], y, acc, h1, h2, h3, h4, h5 => by
    refine ⟨by simpa using h1, fun q hq => ⟨(h3 q hq).1, (h3 q hq).2.1, (h3 q hq).2.2.1⟩, ?_, h4⟩
    show norm R y = 1
    by_cases k : norm R y = 1
    · exact k
    · exfalso
      have y0 : y ≠ zero := by rintro rfl; exact hx (by rw [h4, mul_zero])
      obtain ⟨p, hp, hd⟩ := exists_pr h ((norm R y).toNat + 1) y y0 k (by have := norm_nonneg h y; omega)
      have := h5 p hp hd
      cases this
  | p :: l, y, acc, h1, h2, h3, h4, h5 => by
    rw [List.foldl_cons]
    have hp := h2 p (List.mem_cons_self ..)
    have y0 : y ≠ zero := by rintro rfl; exact hx (by rw [h4, mul_zero])
    have yn : norm R y < 2 ^ 128 := by
      have a := norm_mul R (prodL R acc) y
      rw [← h4] at a
      have b := norm_pos h y0
      have c : 0 < norm R (prodL R acc) := norm_pos h (by rintro e; exact hx (by rw [h4, e, zero_mul]))
      have d := Int.mul_le_mul_of_nonneg_right (show 1 ≤ norm R (prodL R acc) by omega) (show 0 ≤ norm R y by omega)
      rw [Int.one_mul, ← a] at d
      omega
    obtain ⟨a, b, c⟩ := often_is h hp.1 128 y y0 yn
    dsimp only
    have sd := h1
    rw [SSorted, List.pairwise_append] at sd
    obtain ⟨s1, s2, s3⟩ := sd
    have notacc : ∀ q ∈ acc, q.1 ≠ p := by
      intro q hq e
      have := s3 q.1 (List.mem_map.mpr ⟨q, hq, rfl⟩) p (List.mem_cons_self ..)
      rw [e] at this
      exact sooner_irrefl this
    have pd : Dvd R p y := by
      have k := hp.2.2
      rw [h4] at k
      rcases hp.1.dvd_mul h k with k | k
      · obtain ⟨q, h6, h7⟩ := prodL_dvd h hp.1 (fun q hq => (h3 q hq).1) k
        rw [hp.2.1, (h3 q h6).2.1] at h7
        exact absurd h7.symm (notacc q h6)
      · exact k
    generalize often R 128 y p = r at *
    refine fold_often h hx hs l r.2 (acc ++ [(p, r.1)]) ?_ (fun z hz => h2 z (List.mem_cons_of_mem _ hz)) ?_ ?_ ?_
    · simpa using h1
    · intro q hq
      rcases List.mem_append.mp hq with hq | hq
      · refine ⟨(h3 q hq).1, (h3 q hq).2.1, (h3 q hq).2.2.1, ?_⟩
        intro k
        apply (h3 q hq).2.2.2
        rw [a]; exact k.mul' _
      · rw [List.mem_singleton.mp hq]
        exact ⟨hp.1, hp.2.1, c pd, b⟩
    · rw [prodL_append, mul_assoc]
      show x = mul R (prodL R acc) (mul R (mul R (pow R p r.1) one) r.2)
      rw [mul_one, ← a]; exact h4
    · intro z hz hd
      have hy : Dvd R z y := by rw [a]; exact hd.mul' _
      rcases List.mem_cons.mp (h5 z hz hy) with e | e
      · exfalso
        apply b
        rw [← e, dvd_form h]
        exact hd
      · exact e
theorem factors_is {R : Ring} (h : Ok R) {x : Zw} (hx : x ≠ zero) (hs : norm R x < 2 ^ 40) : IsFactors R x (factors R x).unit (factors R x).primes := by
  have P := primeList_is h hx hs
  have h128 : norm R x < 2 ^ 128 := by
    have : (2 : Int) ^ 40 ≤ 2 ^ 128 := by decide
    omega
  refine fold_often h hx h128 (primeList R x) x [] (by simpa using P.1) (fun z hz => (P.2 z).mp hz) (by simp) (one_mul ..).symm ?_
  intro z hz hd
  rw [P.2]
  exact ⟨hz.form h, form_form h _, by rw [dvd_form h]; exact hd⟩
theorem factors_unique {R : Ring} (h : Ok R) {x u : Zw} {L : List (Zw × Nat)} (hx : x ≠ zero) (hs : norm R x < 2 ^ 40) (F : IsFactors R x u L) : factors R x = ⟨u, L⟩ := by
  obtain ⟨e1, e2⟩ := (factors_is h hx hs).unique h hx F
  cases hf : factors R x with
  | mk a b =>
    rw [hf] at e1 e2
    dsimp only at e1 e2
    rw [e1, e2]
end Rf
set_option linter.unusedVariables false
namespace Rf
open Rg
def both (R : Ring) (x : Zw) (p : Nat) : List Zw := if norm R (gcd R x (whole p)).d = (p : Int) then [(gcd R x (whole p)).d] else over R p
theorem dvd_comb {R : Ring} {z a b u v : Zw} (h1 : Dvd R z a) (h2 : Dvd R z b) : Dvd R z (add (mul R u a) (mul R v b)) := Dvd.add (h1.mul' _) (h2.mul' _)
theorem gcd_swap {R : Ring} (h : Ok R) (x y : Zw) (hx : x ≠ zero) : norm R (gcd R x y).d = norm R (gcd R y x).d := by
  obtain ⟨a1, a2, a3, a4, a5⟩ := gcd_is h x y
  obtain ⟨b1, b2, b3, b4, b5⟩ := gcd_is h y x
  have d1 : Dvd R (gcd R x y).d (gcd R y x).d := by
    rw [b1]
    exact dvd_comb a3 a2
  have d2 : Dvd R (gcd R y x).d (gcd R x y).d := by
    rw [a1]
    exact dvd_comb b3 b2
  have n1 : (gcd R x y).d ≠ zero := fun e => hx (a5 e).1
  have n2 : (gcd R y x).d ≠ zero := fun e => hx (b5 e).2
  obtain ⟨k, e1⟩ := d1
  obtain ⟨l, e2⟩ := d2
  have q1 := norm_mul R (gcd R x y).d k
  have q2 := norm_mul R (gcd R y x).d l
  rw [← e1] at q1
  rw [← e2] at q2
  have p1 := norm_pos h n1
  have p2 := norm_pos h n2
  have k0 := norm_nonneg h k
  have l0 := norm_nonneg h l
  generalize norm R (gcd R x y).d = A at *
  generalize norm R (gcd R y x).d = B at *
  have c1 : A ≤ B := by
    rcases Int.lt_or_le 0 (norm R k) with t | t
    · have := Int.mul_le_mul_of_nonneg_left (show (1 : Int) ≤ norm R k by omega) (Int.le_of_lt p1)
      omega
    · have : norm R k = 0 := by omega
      rw [this, Int.mul_zero] at q1
      omega
  have c2 : B ≤ A := by
    rcases Int.lt_or_le 0 (norm R l) with t | t
    · have := Int.mul_le_mul_of_nonneg_left (show (1 : Int) ≤ norm R l by omega) (Int.le_of_lt p2)
      omega
    · have : norm R l = 0 := by omega
      rw [this, Int.mul_zero] at q2
      omega
  omega
theorem both_mem {R : Ring} (h : Ok R) {x : Zw} (hx : x ≠ zero) {p : Nat} (hp : WP p) (hN : (p : Int) ∣ norm R x) (z : Zw) : z ∈ both R x p ↔ Pr R z ∧ form R z = z ∧ Dvd R z (whole p) ∧ Dvd R z x := by
  obtain ⟨a1, a2, a3, a4, a5⟩ := gcd_is h x (whole p)
  unfold both
  split
  · rename_i e
    have pg := pr_of_norm h hp e
    rw [List.mem_singleton]
    constructor
    · rintro rfl
      exact ⟨pg, a4, a3, a2⟩
    · rintro ⟨z1, z2, z3, z4⟩
      have zg : Dvd R z (gcd R x (whole p)).d := by
        rw [a1]
        exact dvd_comb z4 z3
      have := z1.form_eq h pg zg
      rw [z2, a4] at this
      exact this
  · rename_i e
    have px : Dvd R (whole p) x := by
      by_cases k : Dvd R (whole p) x
      · exact k
      · exact absurd ((gcd_swap h x (whole p) hx).trans (split_gcd h hp k hN)) e
    rw [(over_is h hp).2 z]
    exact ⟨fun ⟨z1, z2, z3⟩ => ⟨z1, z2, z3, z3.trans px⟩, fun ⟨z1, z2, z3, _⟩ => ⟨z1, z2, z3⟩⟩
theorem both_small {R : Ring} (h : Ok R) {x : Zw} (hx : x ≠ zero) {p : Nat} (hp : WP p) (hN : (p : Int) ∣ norm R x) (e : norm R (gcd R x (whole p)).d ≠ (p : Int)) : Dvd R (whole p) x := by
  by_cases k : Dvd R (whole p) x
  · exact k
  · exact absurd ((gcd_swap h x (whole p) hx).trans (split_gcd h hp k hN)) e
theorem prodL_perm {R : Ring} {l k : List (Zw × Nat)} (h : l.Perm k) : prodL R l = prodL R k := by
  induction h with
  | nil => rfl
  | cons q _ ih => show mul R _ _ = mul R _ _; rw [ih]
  | swap a b l =>
    show mul R _ (mul R _ _) = mul R _ (mul R _ _)
    rw [← mul_assoc, ← mul_assoc, mul_comm R (pow R b.1 b.2)]
  | trans _ _ h1 h2 => exact h1.trans h2
structure Took (R : Ring) (x y : Zw) (acc : List (Zw × Nat)) : Prop where
  rows : ∀ q ∈ acc, Pr R q.1 ∧ form R q.1 = q.1 ∧ 1 ≤ q.2 ∧ ¬ Dvd R q.1 y
  nd : (acc.map (·.1)).Nodup
  prod : x = mul R (prodL R acc) y
theorem Took.start {R : Ring} (x : Zw) : Took R x x [] := ⟨(fun _ h => nomatch h), List.nodup_nil, (one_mul R x).symm⟩
theorem Took.left {R : Ring} {x y : Zw} {acc : List (Zw × Nat)} (t : Took R x y acc) : Dvd R y x := ⟨prodL R acc, by rw [mul_comm]; exact t.prod⟩
theorem Took.step {R : Ring} (h : Ok R) {x y y' z : Zw} {k : Nat} {acc : List (Zw × Nat)} (t : Took R x y acc) (hz : Pr R z) (hf : form R z = z) (hd : Dvd R z x) (hn : z ∉ acc.map (·.1)) (e : y = mul R (pow R z k) y') (nd : ¬ Dvd R z y') : 1 ≤ k ∧ Took R x y' (acc ++ [(z, k)]) := by
  have zy : Dvd R z y := by
    rw [t.prod] at hd
    rcases hz.dvd_mul h hd with q | q
    · obtain ⟨w, hw, ew⟩ := prodL_dvd h hz (fun w hw => (t.rows w hw).1) q
      rw [hf, (t.rows w hw).2.1] at ew
      exact absurd (List.mem_map.mpr ⟨w, hw, ew.symm⟩) hn
    · exact q
  have k1 : 1 ≤ k := by
    cases k with
    | zero =>
      rw [show pow R z 0 = one from rfl, one_mul] at e
      rw [e] at zy
      exact absurd zy nd
    | succ k => omega
  refine ⟨k1, fun q hq => ?_, ?_, ?_⟩
  · rcases List.mem_append.mp hq with w | w
    · obtain ⟨r1, r2, r3, r4⟩ := t.rows q w
      refine ⟨r1, r2, r3, fun d => r4 ?_⟩
      rw [e]
      exact d.mul' _
    · rw [List.mem_singleton.mp w]
      exact ⟨hz, hf, k1, nd⟩
  · rw [List.map_append, List.nodup_append]
    refine ⟨t.nd, by simp, fun a ha b hb => ?_⟩
    have : b = z := by simpa using hb
    rw [this]
    rintro rfl
    exact hn ha
  · have : prodL R [(z, k)] = pow R z k := by
      show mul R (pow R z k) one = _
      rw [mul_one]
    rw [prodL_append, this, mul_assoc, ← e]
    exact t.prod
theorem Took.done {R : Ring} (h : Ok R) {x y : Zw} (hx : x ≠ zero) (hs : norm R x < 2 ^ 40) {acc L : List (Zw × Nat)} (t : Took R x y acc) (all : ∀ z, Pr R z → form R z = z → Dvd R z x → z ∈ acc.map (·.1)) (hp : L.Perm acc) (so : SSorted R (L.map (·.1))) : factors R x = ⟨y, L⟩ := by
  have y0 : y ≠ zero := fun e => hx (by rw [t.prod, e, mul_zero])
  refine factors_unique h hx hs ⟨so, fun q hq => ?_, ?_, ?_⟩
  · obtain ⟨r1, r2, r3, _⟩ := t.rows q (hp.subset hq)
    exact ⟨r1, r2, r3⟩
  · by_cases n1 : norm R y = 1
    · exact n1
    · obtain ⟨z, hz, hd⟩ := exists_pr h ((norm R y).toNat + 1) y y0 n1 (by have := norm_nonneg h y; omega)
      have hm := all (form R z) (hz.form h) (form_form h z) (by rw [dvd_form h]; exact hd.trans t.left)
      obtain ⟨q, hq, e⟩ := List.mem_map.mp hm
      obtain ⟨_, _, _, r4⟩ := t.rows q hq
      refine absurd ?_ r4
      rw [e, dvd_form h]
      exact hd
  · rw [prodL_perm hp]
    exact t.prod
def takeStep (R : Ring) (f : Zw × List (Zw × Nat)) (z : Zw) : Zw × List (Zw × Nat) := ((often R 128 f.1 z).2, f.2 ++ [(z, (often R 128 f.1 z).1)])
def takeAll (R : Ring) (x : Zw) (l : List Zw) : Zw × List (Zw × Nat) := l.foldl (takeStep R) (x, [])
theorem dvd_small {R : Ring} (h : Ok R) {x y : Zw} (hx : x ≠ zero) (d : Dvd R y x) : y ≠ zero ∧ norm R y ≤ norm R x := by
  obtain ⟨k, e⟩ := d
  have y0 : y ≠ zero := fun z => hx (by rw [e, z, zero_mul])
  have n := norm_mul R y k
  rw [← e] at n
  have p1 := norm_pos h hx
  have p2 := norm_pos h y0
  have k0 := norm_nonneg h k
  refine ⟨y0, ?_⟩
  rcases Int.lt_or_le 0 (norm R k) with t | t
  · have := Int.mul_le_mul_of_nonneg_left (show (1 : Int) ≤ norm R k by omega) (Int.le_of_lt p2)
    omega
  · have : norm R k = 0 := by omega
    rw [this, Int.mul_zero] at n
    omega
theorem took_fold {R : Ring} (h : Ok R) {x : Zw} (hx : x ≠ zero) (hs : norm R x < 2 ^ 128) : ∀ (l : List Zw) (f : Zw × List (Zw × Nat)), Took R x f.1 f.2 → l.Nodup → (∀ z ∈ l, Pr R z ∧ form R z = z ∧ Dvd R z x ∧ z ∉ f.2.map (·.1)) →
    Took R x (l.foldl (takeStep R) f).1 (l.foldl (takeStep R) f).2 ∧ (l.foldl (takeStep R) f).2.map (·.1) = f.2.map (·.1) ++ l
  | [], f, t, _, _ => ⟨t, by simp⟩
  | z :: l, f, t, nd, hl => by
    obtain ⟨z1, z2, z3, z4⟩ := hl z (List.mem_cons_self ..)
    obtain ⟨y0, yn⟩ := dvd_small h hx t.left
    obtain ⟨o1, o2, _⟩ := often_is h z1 128 f.1 y0 (by omega)
    have st := (t.step h z1 z2 z3 z4 o1 o2).2
    have nd' := List.nodup_cons.mp nd
    obtain ⟨q1, q2⟩ := took_fold h hx hs l (takeStep R f z) st nd'.2 fun w hw => by
      obtain ⟨w1, w2, w3, w4⟩ := hl w (List.mem_cons_of_mem _ hw)
      refine ⟨w1, w2, w3, fun m => ?_⟩
      have m' : w ∈ f.2.map (·.1) ++ [z] := by simpa [takeStep] using m
      rcases List.mem_append.mp m' with m' | m'
      · exact w4 m'
      · rw [List.mem_singleton.mp m'] at hw
        exact nd'.1 hw
    refine ⟨q1, ?_⟩
    rw [List.foldl_cons, q2]
    simp [takeStep]
theorem took_all {R : Ring} (h : Ok R) {x : Zw} (hx : x ≠ zero) (hs : norm R x < 2 ^ 128) {l : List Zw} (nd : l.Nodup) (hl : ∀ z ∈ l, Pr R z ∧ form R z = z ∧ Dvd R z x) : Took R x (takeAll R x l).1 (takeAll R x l).2 ∧ (takeAll R x l).2.map (·.1) = l := by
  obtain ⟨q1, q2⟩ := took_fold h hx hs l (x, []) (Took.start x) nd fun z hz => by
    obtain ⟨a, b, c⟩ := hl z hz
    exact ⟨a, b, c, by simp⟩
  exact ⟨q1, by unfold takeAll; simpa using q2⟩
def inOrder (R : Ring) (x : Zw) : List Zw := (primesOf (norm R x).natAbs).flatMap (both R x)
theorem both_nodup {R : Ring} (h : Ok R) {x : Zw} {p : Nat} (hp : WP p) : (both R x p).Nodup := by
  unfold both
  split
  · simp
  · rw [List.nodup_iff_pairwise_ne]
    refine (over_is h hp).1.imp fun {a b} k e => ?_
    subst e
    rw [before_iff] at k
    omega
theorem inOrder_mem {R : Ring} (h : Ok R) {x : Zw} (hx : x ≠ zero) (hs : norm R x < 2 ^ 40) (z : Zw) : z ∈ inOrder R x ↔ Pr R z ∧ form R z = z ∧ Dvd R z x := by
  have n0 := norm_pos h hx
  have e : (((norm R x).natAbs : Nat) : Int) = norm R x := by omega
  obtain ⟨_, s2⟩ := primesOf_is (n := (norm R x).natAbs) (by omega) (by omega)
  unfold inOrder
  rw [List.mem_flatMap]
  constructor
  · rintro ⟨p, hp, hz⟩
    obtain ⟨w1, w2⟩ := (s2 p).mp hp
    obtain ⟨a, b, _, d⟩ := (both_mem h hx w1 (by rw [← e]; exact Int.ofNat_dvd.mpr w2) z).mp hz
    exact ⟨a, b, d⟩
  · rintro ⟨a, b, d⟩
    have dn : Dvd R z (whole ((norm R x).natAbs : Nat)) := by
      rw [e]
      exact d.trans (dvd_norm R x)
    obtain ⟨p, w1, w2, w3⟩ := a.over h ((norm R x).natAbs + 1) (norm R x).natAbs (by omega) (by omega) dn
    exact ⟨p, (s2 p).mpr ⟨w1, w2⟩, (both_mem h hx w1 (by rw [← e]; exact Int.ofNat_dvd.mpr w2) z).mpr ⟨a, b, w3, d⟩⟩
theorem inOrder_nodup {R : Ring} (h : Ok R) {x : Zw} (hx : x ≠ zero) (hs : norm R x < 2 ^ 40) : (inOrder R x).Nodup := by
  have n0 := norm_pos h hx
  have e : (((norm R x).natAbs : Nat) : Int) = norm R x := by omega
  obtain ⟨s1, s2⟩ := primesOf_is (n := (norm R x).natAbs) (by omega) (by omega)
  have mem : ∀ p ∈ primesOf (norm R x).natAbs, WP p ∧ ∀ z ∈ both R x p, Pr R z ∧ Dvd R z (whole p) := fun p hp => by
    obtain ⟨w1, w2⟩ := (s2 p).mp hp
    refine ⟨w1, fun z hz => ?_⟩
    obtain ⟨a, _, c, _⟩ := (both_mem h hx w1 (by rw [← e]; exact Int.ofNat_dvd.mpr w2) z).mp hz
    exact ⟨a, c⟩
  unfold inOrder
  rw [List.Nodup, List.pairwise_flatMap]
  refine ⟨fun p hp => both_nodup h (mem p hp).1, s1.imp_of_mem (S := fun a b => ∀ u ∈ both R x a, ∀ v ∈ both R x b, u ≠ v) ?_⟩
  intro a b ha hb k u hu v hv e2
  subst e2
  obtain ⟨wa, qa⟩ := mem a ha
  obtain ⟨wb, qb⟩ := mem b hb
  have := over_unique h (qa u hu).1 wa wb (qa u hu).2 (qb u hv).2
  omega
theorem factors_rows {R : Ring} (h : Ok R) {x : Zw} (hx : x ≠ zero) (hs : norm R x < 2 ^ 40) {L : List (Zw × Nat)} (hp : L.Perm (takeAll R x (inOrder R x)).2) (so : SSorted R (L.map (·.1))) : factors R x = ⟨(takeAll R x (inOrder R x)).1, L⟩ := by
  have mem := inOrder_mem h hx hs
  obtain ⟨t1, t2⟩ := took_all h hx (by omega) (inOrder_nodup h hx hs) fun z hz => (mem z).mp hz
  exact t1.done h hx hs (fun z z1 z2 z3 => by rw [t2]; exact (mem z).mpr ⟨z1, z2, z3⟩) hp so
theorem norm_pow_ge {R : Ring} (h : Ok R) {z : Zw} (hz : 2 ≤ norm R z) : ∀ k : Nat, 1 ≤ k → 2 ≤ norm R (pow R z k)
  | 0, hk => by omega
  | 1, _ => by rw [pow_one]; exact hz
  | k + 2, _ => by
    have ih := norm_pow_ge h hz (k + 1) (by omega)
    rw [show pow R z (k + 2) = mul R (pow R z (k + 1)) z from rfl, norm_mul]
    have := Int.mul_le_mul_of_nonneg_left hz (show 0 ≤ norm R (pow R z (k + 1)) by omega)
    omega
theorem prodL_norm {R : Ring} (h : Ok R) : ∀ acc : List (Zw × Nat), (∀ q ∈ acc, Pr R q.1 ∧ 1 ≤ q.2) → (2 : Int) ^ acc.length ≤ norm R (prodL R acc)
  | [], _ => by simp [prodL, norm, one]
  | q :: l, hq => by
    have ih := prodL_norm h l fun w hw => hq w (List.mem_cons_of_mem _ hw)
    obtain ⟨p1, p2⟩ := hq q (List.mem_cons_self ..)
    have g := norm_pow_ge h (p1.norm_ge h) q.2 p2
    show (2 : Int) ^ (l.length + 1) ≤ norm R (mul R (pow R q.1 q.2) (prodL R l))
    rw [norm_mul, Int.pow_succ]
    have z := Int.pow_pos (n := 2) (m := l.length) (by decide)
    have := Int.mul_le_mul g ih (by omega) (by omega)
    omega
theorem Took.few {R : Ring} (h : Ok R) {x y : Zw} (hx : x ≠ zero) (hs : norm R x < 2 ^ 40) {acc : List (Zw × Nat)} (t : Took R x y acc) : acc.length < 40 := by
  have a := prodL_norm h acc fun q hq => ⟨(t.rows q hq).1, (t.rows q hq).2.2.1⟩
  have b := (dvd_small h hx (y := prodL R acc) ⟨y, t.prod⟩).2
  rcases Nat.lt_or_ge acc.length 40 with k | k
  · exact k
  · have : (2 : Int) ^ 40 ≤ 2 ^ acc.length := by
      have := Nat.pow_le_pow_right (show 0 < 2 by decide) k
      exact_mod_cast this
    omega
theorem sort_rows {R : Ring} (acc : List (Zw × Nat)) (nd : (acc.map (·.1)).Nodup) : ∃ L : List (Zw × Nat), L.Perm acc ∧ SSorted R (L.map (·.1)) := by
  let le : (Zw × Nat) → (Zw × Nat) → Bool := fun a b => decide (a.1 = b.1 ∨ sooner R a.1 b.1 = true)
  refine ⟨acc.mergeSort le, List.mergeSort_perm _ _, ?_⟩
  have pm : (acc.mergeSort le).Perm acc := List.mergeSort_perm _ _
  have s := List.pairwise_mergeSort (le := le) (fun a b c h1 h2 => by
    have h1 := of_decide_eq_true h1
    have h2 := of_decide_eq_true h2
    refine decide_eq_true ?_
    rcases h1 with h1 | h1
    · rw [h1]; exact h2
    · rcases h2 with h2 | h2
      · rw [← h2]; exact .inr h1
      · exact .inr (sooner_trans h1 h2)) (fun a b => by
    rcases sooner_total R a.1 b.1 with h | h | h
    · simp [le, h]
    · simp [le, h]
    · simp [le, h]) acc
  have n2 : ((acc.mergeSort le).map (·.1)).Nodup := (pm.map _).nodup_iff.mpr nd
  unfold SSorted
  rw [List.nodup_iff_pairwise_ne] at n2
  rw [List.pairwise_map] at n2 ⊢
  exact (s.and n2).imp fun {a b} ⟨k1, k2⟩ => (of_decide_eq_true k1).resolve_left k2
end Rf
set_option linter.unusedVariables false
namespace Rf
open Rg
def prodZ (R : Ring) : List Zw → Zw
  | [] => one
  | x :: l => mul R x (prodZ R l)
theorem prodZ_perm {R : Ring} {l k : List Zw} (h : l.Perm k) : prodZ R l = prodZ R k := by
  induction h with
  | nil => rfl
  | cons x _ ih => show mul R x _ = mul R x _; rw [ih]
  | swap x y l =>
    show mul R y (mul R x _) = mul R x (mul R y _)
    rw [← mul_assoc, mul_comm R y x, mul_assoc]
  | trans _ _ ih1 ih2 => exact ih1.trans ih2
theorem perm_of_sub : ∀ {l k : List Zw}, l.Nodup → (∀ x ∈ l, x ∈ k) → l.length = k.length → l.Perm k
  | [], k, _, _, e => by
    have : k = [] := List.eq_nil_of_length_eq_zero e.symm
    rw [this]
  | a :: l, k, hn, hs, e => by
    obtain ⟨n1, n2⟩ := List.nodup_cons.mp hn
    have ha := hs a (List.mem_cons_self ..)
    have p := List.perm_cons_erase ha
    refine List.Perm.trans (List.Perm.cons a (perm_of_sub n2 ?_ ?_)) p.symm
    · intro x hx
      have := hs x (List.mem_cons_of_mem _ hx)
      rw [p.mem_iff] at this
      rcases List.mem_cons.mp this with rfl | h
      · exact absurd hx n1
      · exact h
    · have := p.length_eq
      simp only [List.length_cons] at this e
      omega
theorem prodZ_same {R : Ring} {m x : Zw} : ∀ {l : List Zw} {f : Zw → Zw}, (∀ s ∈ l, Same R m (f s) (mul R x s)) → Same R m (prodZ R (l.map f)) (mul R (pow R x l.length) (prodZ R l))
  | [], f, _ => by
    show Same R m one (mul R one one)
    rw [mul_one]; exact Same.refl ..
  | s :: l, f, h => by
    have ih := prodZ_same (fun t ht => h t (List.mem_cons_of_mem _ ht))
    have h1 := Same.mul (h s (List.mem_cons_self ..)) ih
    have e : mul R (mul R x s) (mul R (pow R x l.length) (prodZ R l)) = mul R (pow R x (s :: l).length) (prodZ R (s :: l)) := by
      show _ = mul R (mul R (pow R x l.length) x) (mul R s (prodZ R l))
      generalize pow R x l.length = P
      generalize prodZ R l = L
      simp only [mul, Zw.mk.injEq]; constructor <;> grind
    rw [e] at h1
    exact h1
theorem prodZ_dvd {R : Ring} (h : Ok R) {p : Zw} (hp : Pr R p) : ∀ {l : List Zw}, Dvd R p (prodZ R l) → ∃ x ∈ l, Dvd R p x
  | [], k => absurd (norm_one_of_dvd h k) hp.2.1
  | x :: l, k => by
    rcases hp.dvd_mul h (show Dvd R p (mul R x (prodZ R l)) from k) with k | k
    · exact ⟨x, List.mem_cons_self .., k⟩
    · obtain ⟨y, h1, h2⟩ := prodZ_dvd h hp k
      exact ⟨y, List.mem_cons_of_mem _ h1, h2⟩
def IsSystem (R : Ring) (p : Zw) (T : List Zw) : Prop := T.length = (norm R p).toNat ∧ T.Pairwise (fun x y => ¬ Same R p x y) ∧ ∀ z, ∃ t ∈ T, Same R p z t
theorem same_whole {R : Ring} {p : Zw} {q : Int} (hq : Dvd R p (whole q)) {a b : Int} (k : q ∣ a - b) (c : Int) {x y : Zw} (hx : x = ⟨a, c⟩) (hy : y = ⟨b, c⟩) : Same R p x y := by
  obtain ⟨d, hd⟩ := k
  subst hx hy
  have : less ⟨a, c⟩ ⟨b, c⟩ = mul R (whole q) (whole d) := by
    rw [whole_mul, ← hd]; simp [less, whole]
  unfold Same; rw [this]; exact hq.mul _
theorem system_split {R : Ring} (h : Ok R) {p : Zw} {q : Nat} (hq : WP q) (e : norm R p = (q : Int)) : IsSystem R p ((List.range q).map fun (i : Nat) => whole (i : Int)) := by
  have q2 := hq.1
  have dq : Dvd R p (whole q) := by rw [← e]; exact dvd_norm R p
  refine ⟨by rw [List.length_map, List.length_range, e]; omega, ?_, ?_⟩
  · rw [List.pairwise_map]
    refine List.pairwise_lt_range.imp_of_mem ?_
    intro i j hi hj lt k
    have := norm_dvd k
    have e1 : less (whole (i : Int)) (whole (j : Int)) = whole ((i : Int) - j) := by simp [less, whole]
    rw [e1, norm_whole, e] at this
    have hd : (q : Int) ∣ (i : Int) - j := by rcases wp_int hq this with k | k <;> exact k
    have := Int.natAbs_dvd_natAbs.mpr hd
    have := Nat.le_of_dvd (by omega) this
    have := List.mem_range.mp hi
    have := List.mem_range.mp hj
    omega
  · intro z
    -- q does not divide p.b
    have hb : ¬ (q : Int) ∣ p.b := by
      intro hb
      obtain ⟨b, hb⟩ := hb
      have ha : (q : Int) ∣ p.a * p.a := by
        refine ⟨1 - R.t * p.a * b - R.c * b * p.b, ?_⟩
        simp only [norm] at e
        rw [hb] at e ⊢
        grind
      have ha : (q : Int) ∣ p.a := by rcases wp_int hq ha with k | k <;> exact k
      obtain ⟨a, ha⟩ := ha
      have : (q : Int) * 1 = q * (q * norm R ⟨a, b⟩) := by
        rw [Int.mul_one]
        conv => lhs; rw [← e]
        simp only [norm]
        rw [ha, hb]; grind
      have := Int.eq_of_mul_eq_mul_left (show (q : Int) ≠ 0 by omega) this
      have d : (q : Int) ∣ 1 := ⟨_, this⟩
      have := Int.le_of_dvd (by decide) d
      omega
    obtain ⟨k, d, hk⟩ := mod_inv hq hb
    -- z - p k z.b is whole by q
    have s1 : Same R p z ⟨z.a - p.a * k * z.b, -(q * d) * z.b⟩ := by
      refine ⟨whole (k * z.b), ?_⟩
      rw [mul_comm, mul_whole]
      cases z
      simp only [less, Zw.mk.injEq] at *
      constructor <;> grind
    have s2 : Same R p ⟨z.a - p.a * k * z.b, -(q * d) * z.b⟩ ⟨z.a - p.a * k * z.b, 0⟩ := by
      have e1 : less ⟨z.a - p.a * k * z.b, -(q * d) * z.b⟩ ⟨z.a - p.a * k * z.b, 0⟩ = mul R (whole q) ⟨0, -d * z.b⟩ := by
        rw [mul_whole]
        simp only [less, Zw.mk.injEq]; constructor <;> grind
      unfold Same; rw [e1]; exact dq.mul _
    refine ⟨whole ((z.a - p.a * k * z.b) % q), ?_, ?_⟩
    · refine List.mem_map.mpr ⟨((z.a - p.a * k * z.b) % q).toNat, ?_, ?_⟩
      · rw [List.mem_range]
        have := Int.emod_lt_of_pos (z.a - p.a * k * z.b) (show (0 : Int) < q by omega)
        omega
      · have := Int.emod_nonneg (z.a - p.a * k * z.b) (show (q : Int) ≠ 0 by omega)
        congr 1
        omega
    · refine (s1.trans s2).trans (same_whole dq (a := z.a - p.a * k * z.b) (b := (z.a - p.a * k * z.b) % q) ?_ 0 rfl rfl)
      refine ⟨(z.a - p.a * k * z.b) / q, ?_⟩
      have := Int.mul_ediv_add_emod (z.a - p.a * k * z.b) q
      omega
theorem system_inert {R : Ring} (h : Ok R) {p : Zw} {q : Nat} (hq : WP q) (dq : Dvd R p (whole q)) (e : norm R p = (q : Int) * q) :
    IsSystem R p ((List.range q).flatMap fun (i : Nat) => (List.range q).map fun (j : Nat) => (⟨(i : Int), (j : Int)⟩ : Zw)) := by
  have q2 := hq.1
  obtain ⟨u, hu, eu⟩ := dvd_same_norm h dq (by rw [e, norm_whole]) (by
    intro e0
    have := congrArg Zw.a e0
    simp only [whole, zero] at this
    omega)
  have pq : Dvd R (whole q) p := ⟨mirror R u, by rw [eu, mul_assoc, unit_mirror hu, mul_one]⟩
  refine ⟨?_, ?_, ?_⟩
  · have : ∀ (l : List Nat), (l.flatMap fun (i : Nat) => (List.range q).map fun (j : Nat) => (⟨(i : Int), (j : Int)⟩ : Zw)).length = l.length * q := by
      intro l
      induction l with
      | nil => simp
      | cons a l ih =>
        rw [List.flatMap_cons, List.length_append, ih, List.length_map, List.length_range, List.length_cons, Nat.succ_mul]
        omega
    rw [this, List.length_range, e]
    have : ((q * q : Nat) : Int) = (q : Int) * q := Int.natCast_mul ..
    omega
  · have key : ∀ (i j i' j' : Nat), i < q → j < q → i' < q → j' < q → Same R p ⟨(i : Int), (j : Int)⟩ ⟨(i' : Int), (j' : Int)⟩ → i = i' ∧ j = j' := by
      intro i j i' j' h1 h2 h3 h4 k
      have := dvd_whole.mp (pq.trans k)
      simp only [less] at this
      obtain ⟨a, b⟩ := this
      have fin : ∀ (x y : Nat), x < q → y < q → (q : Int) ∣ (x : Int) - y → x = y := by
        intro x y hx hy d
        by_cases e : x = y
        · exact e
        · have := Int.natAbs_dvd_natAbs.mpr d
          have := Nat.le_of_dvd (by omega) this
          omega
      exact ⟨fin _ _ h1 h3 a, fin _ _ h2 h4 b⟩
    rw [List.pairwise_flatMap]
    constructor
    · intro i hi
      rw [List.pairwise_map]
      refine List.pairwise_lt_range.imp_of_mem ?_
      intro j j' hj hj' lt k
      have := key i j i j' (List.mem_range.mp hi) (List.mem_range.mp hj) (List.mem_range.mp hi) (List.mem_range.mp hj') k
      omega
    · refine List.pairwise_lt_range.imp_of_mem ?_
      intro i i' hi hi' lt x hx y hy k
      obtain ⟨j, hj, rfl⟩ := List.mem_map.mp hx
      obtain ⟨j', hj', rfl⟩ := List.mem_map.mp hy
      have := key i j i' j' (List.mem_range.mp hi) (List.mem_range.mp hj) (List.mem_range.mp hi') (List.mem_range.mp hj') k
      omega
  · intro z
    have p0 : (q : Int) ≠ 0 := by omega
    have pp : (0 : Int) < q := by omega
    have a0 := Int.emod_nonneg z.a p0
    have a1 := Int.emod_lt_of_pos z.a pp
    have b0 := Int.emod_nonneg z.b p0
    have b1 := Int.emod_lt_of_pos z.b pp
    refine ⟨⟨z.a % q, z.b % q⟩, ?_, ?_⟩
    · rw [List.mem_flatMap]
      refine ⟨(z.a % q).toNat, List.mem_range.mpr (by omega), List.mem_map.mpr ⟨(z.b % q).toNat, List.mem_range.mpr (by omega), ?_⟩⟩
      simp only [Zw.mk.injEq]
      omega
    · have ea := Int.mul_ediv_add_emod z.a q
      have eb := Int.mul_ediv_add_emod z.b q
      have e1 : less z ⟨z.a % q, z.b % q⟩ = mul R (whole q) ⟨z.a / q, z.b / q⟩ := by
        rw [mul_whole]
        simp only [less, Zw.mk.injEq]
        constructor <;> omega
      unfold Same; rw [e1]; exact dq.mul _
theorem exists_system {R : Ring} (h : Ok R) {p : Zw} (hp : Pr R p) : ∃ T, IsSystem R p T := by
  have np := norm_pos h hp.1
  have d := dvd_norm R p
  have e : norm R p = (((norm R p).toNat : Nat) : Int) := by omega
  rw [e] at d
  obtain ⟨q, hq, _, dq⟩ := hp.over h ((norm R p).toNat + 1) _ (by omega) (by omega) d
  rcases norm_over h hq dq with k | k | k
  · exact absurd k hp.2.1
  · exact ⟨_, system_split h hq k⟩
  · exact ⟨_, system_inert h hq dq k⟩
theorem fermat {R : Ring} (h : Ok R) {p x : Zw} (hp : Pr R p) (hx : ¬ Dvd R p x) : Same R p (pow R x ((norm R p).toNat - 1)) one := by
  obtain ⟨T, t1, t2, t3⟩ := exists_system h hp
  -- the rests
  let S := T.map fun t => rest R t p
  have sn : S.Nodup := by
    show (T.map fun t => rest R t p).Nodup
    rw [List.Nodup, List.pairwise_map]
    refine t2.imp ?_
    intro a b k e
    apply k
    have h1 := (same_rest R a p).symm
    have h2 := same_rest R b p
    rw [e] at h1
    exact h1.trans h2
  have own : ∀ s ∈ S, rest R s p = s := by
    intro s hs
    obtain ⟨t, _, rfl⟩ := List.mem_map.mp hs
    exact rest_rest h hp.1
  have all : ∀ z, rest R z p ∈ S := by
    intro z
    obtain ⟨t, ht, k⟩ := t3 z
    rw [rest_same h hp.1 k]
    exact List.mem_map.mpr ⟨t, ht, rfl⟩
  have sl : S.length = (norm R p).toNat := by rw [← t1]; exact List.length_map ..
  have r0 : rest R zero p = zero := by
    have := (rest_dvd h (k := zero) hp.1).1
    rwa [mul_zero] at this
  have z0 : zero ∈ S := by rw [← r0]; exact all zero
  let U := S.erase zero
  have un : U.Nodup := sn.erase _
  have um : ∀ s, s ∈ U ↔ s ≠ zero ∧ s ∈ S := fun s => sn.mem_erase_iff
  have ul : U.length = (norm R p).toNat - 1 := by rw [← sl]; exact List.length_erase_of_mem z0
  let f := fun s => rest R (mul R x s) p
  have fm : (U.map f).Perm U := by
    refine perm_of_sub ?_ ?_ (List.length_map ..)
    · rw [List.Nodup, List.pairwise_map]
      refine un.imp_of_mem ?_
      intro a b ha hb ne e
      apply ne
      have e1 : Same R p (mul R x a) (mul R x b) := by
        have h1 := (same_rest R (mul R x a) p).symm
        have h2 := same_rest R (mul R x b) p
        have e' : rest R (mul R x a) p = rest R (mul R x b) p := e
        rw [e'] at h1
        exact h1.trans h2
      have e2 : Dvd R p (mul R x (less a b)) := by rw [mul_less]; exact e1
      rcases hp.dvd_mul h e2 with k | k
      · exact absurd k hx
      · have := rest_same h hp.1 (show Same R p a b from k)
        rwa [own a ((um a).mp ha).2, own b ((um b).mp hb).2] at this
    · intro y hy
      obtain ⟨s, hs, rfl⟩ := List.mem_map.mp hy
      refine (um _).mpr ⟨?_, all _⟩
      intro e
      have d : Dvd R p (mul R x s) := ⟨_, of_rest e⟩
      rcases hp.dvd_mul h d with k | k
      · exact hx k
      · have hs' := (um s).mp hs
        apply hs'.1
        rw [← own s hs'.2]
        obtain ⟨k, rfl⟩ := k
        exact (rest_dvd h hp.1).1
  have e1 := prodZ_perm (R := R) fm
  have e2 := prodZ_same (R := R) (m := p) (x := x) (l := U) (f := f) (fun s _ => same_rest R (mul R x s) p)
  rw [e1, ul] at e2
  have np : ¬ Dvd R p (prodZ R U) := by
    intro k
    obtain ⟨s, hs, d⟩ := prodZ_dvd h hp k
    have hs' := (um s).mp hs
    apply hs'.1
    rw [← own s hs'.2]
    obtain ⟨k, rfl⟩ := d
    exact (rest_dvd h hp.1).1
  have e3 : Dvd R p (mul R (prodZ R U) (less (pow R x ((norm R p).toNat - 1)) one)) := by
    have : mul R (prodZ R U) (less (pow R x ((norm R p).toNat - 1)) one) = less (mul R (pow R x ((norm R p).toNat - 1)) (prodZ R U)) (prodZ R U) := by
      rw [mul_less, mul_one, mul_comm R (prodZ R U)]
    rw [this]
    exact e2.symm
  rcases hp.dvd_mul h e3 with k | k
  · exact absurd k np
  · exact k
theorem pow_mul (R : Ring) (x : Zw) (m : Nat) : ∀ n, pow R x (m * n) = pow R (pow R x m) n
  | 0 => rfl
  | n + 1 => by
    rw [Nat.mul_succ, pow_add, pow_mul R x m n]; rfl
theorem units_roots {R : Ring} (h : Ok R) {p z : Zw} (hp : Pr R p) (k : Same R p (pow R z (unitsOf R)) one) : ∃ u, norm R u = 1 ∧ Same R p z u := by
  have two : ∀ a b : Zw, norm R a = 1 → norm R b = 1 → Dvd R p (mul R (less z a) (less z b)) → ∃ u, norm R u = 1 ∧ Same R p z u := by
    intro a b ha hb d
    rcases hp.dvd_mul h d with k | k
    · exact ⟨a, ha, k⟩
    · exact ⟨b, hb, k⟩
  unfold Same at k
  rcases h.cases with rfl | rfl | rfl | rfl | rfl
  · have e : less (pow ⟨0, 1⟩ z (unitsOf ⟨0, 1⟩)) one = mul ⟨0, 1⟩ (mul ⟨0, 1⟩ (less z one) (less z ⟨-1, 0⟩)) (mul ⟨0, 1⟩ (less z ⟨0, 1⟩) (less z ⟨0, -1⟩)) := by
      simp only [unitsOf, pow, less, mul, one, if_pos, Zw.mk.injEq]; constructor <;> grind
    rw [e] at k
    rcases hp.dvd_mul h k with k | k
    · exact two _ _ (by decide) (by decide) k
    · exact two _ _ (by decide) (by decide) k
  · have e : less (pow ⟨0, 2⟩ z (unitsOf ⟨0, 2⟩)) one = mul ⟨0, 2⟩ (less z one) (less z ⟨-1, 0⟩) := by
      simp only [show unitsOf ⟨0, 2⟩ = 2 from rfl, pow, less, mul, one, Zw.mk.injEq]; constructor <;> grind
    rw [e] at k
    exact two _ _ (by decide) (by decide) k
  · have e : less (pow ⟨1, 1⟩ z (unitsOf ⟨1, 1⟩)) one = mul ⟨1, 1⟩ (mul ⟨1, 1⟩ (less z one) (less z ⟨-1, 0⟩)) (mul ⟨1, 1⟩ (mul ⟨1, 1⟩ (less z ⟨0, 1⟩) (less z ⟨1, -1⟩)) (mul ⟨1, 1⟩ (less z ⟨0, -1⟩) (less z ⟨-1, 1⟩))) := by
      simp only [show unitsOf ⟨1, 1⟩ = 6 from rfl, pow, less, mul, one, Zw.mk.injEq]; constructor <;> grind
    rw [e] at k
    rcases hp.dvd_mul h k with k | k
    · exact two _ _ (by decide) (by decide) k
    · rcases hp.dvd_mul h k with k | k
      · exact two _ _ (by decide) (by decide) k
      · exact two _ _ (by decide) (by decide) k
  · have e : less (pow ⟨1, 2⟩ z (unitsOf ⟨1, 2⟩)) one = mul ⟨1, 2⟩ (less z one) (less z ⟨-1, 0⟩) := by
      simp only [show unitsOf ⟨1, 2⟩ = 2 from rfl, pow, less, mul, one, Zw.mk.injEq]; constructor <;> grind
    rw [e] at k
    exact two _ _ (by decide) (by decide) k
  · have e : less (pow ⟨1, 3⟩ z (unitsOf ⟨1, 3⟩)) one = mul ⟨1, 3⟩ (less z one) (less z ⟨-1, 0⟩) := by
      simp only [show unitsOf ⟨1, 3⟩ = 2 from rfl, pow, less, mul, one, Zw.mk.injEq]; constructor <;> grind
    rw [e] at k
    exact two _ _ (by decide) (by decide) k
theorem symbol_exists {R : Ring} (h : Ok R) {x p : Zw} (hp : Pr R p) (he : (norm R p - 1) % (unitsOf R : Int) = 0) (k : ¬ Dvd R p x) : ∃ u, norm R u = 1 ∧ Same R p (pow R x ((norm R p - 1) / (unitsOf R : Int)).toNat) u := by
  refine units_roots h hp ?_
  rw [← pow_mul]
  have np := norm_pos h hp.1
  have e : ((norm R p - 1) / (unitsOf R : Int)).toNat * unitsOf R = (norm R p).toNat - 1 := by
    have h1 := Int.mul_ediv_add_emod (norm R p - 1) (unitsOf R : Int)
    rw [he, Int.add_zero] at h1
    have h2 : 0 ≤ (norm R p - 1) / (unitsOf R : Int) := Int.ediv_nonneg (by omega) (by omega)
    apply Int.ofNat_inj.mp
    rw [Int.natCast_mul]
    have h3 : ((((norm R p - 1) / (unitsOf R : Int)).toNat : Nat) : Int) = (norm R p - 1) / (unitsOf R : Int) := by omega
    rw [h3, Int.mul_comm, h1]
    omega
  rw [e]
  exact fermat h hp k
end Rf
namespace Rf
open Rg
theorem factors_zero (R : Ring) : factors R zero = ⟨zero, []⟩ := by
  have n0 : (norm R zero).natAbs = 0 := by simp [norm, zero]
  unfold factors
  rw [n0]
  rfl
theorem prime_of_one {R : Ring} (h : Ok R) {x : Zw} (hx : x ≠ zero) (hs : norm R x < 2 ^ 40) (k : ((factors R x).primes.map fun (f : Zw × Nat) => f.2) = [1]) : Pr R x := by
  have F := factors_is h hx hs
  have U := F.unit
  generalize (factors R x).primes = L at F k
  match L, k with
  | [], k => cases k
  | _ :: _ :: _, k => simp at k
  | [q], k =>
    have e1 : q.2 = 1 := by simpa using k
    have pr := (F.primes q (List.mem_cons_self ..)).1
    have e := F.prod
    rw [show prodL R [q] = mul R (pow R q.1 q.2) one from rfl, e1, mul_one, pow_one] at e
    generalize (factors R x).unit = u at e U
    have nu : norm R x = norm R q.1 := by rw [e, norm_mul, U, Int.mul_one]
    refine ⟨hx, by rw [nu]; exact pr.2.1, fun y z hyz => ?_⟩
    have back : q.1 = mul R y (mul R z (mirror R u)) := by
      rw [← mul_assoc, ← hyz, e, mul_assoc, unit_mirror U, mul_one]
    rcases pr.2.2 _ _ back with w | w
    · exact .inl w
    · rw [norm_mul, norm_mirror, U, Int.mul_one] at w
      exact .inr w
end Rf
set_option Elab.async false
set_option linter.all false
set_option maxRecDepth 100000
set_option maxHeartbeats 4000000
namespace BS
open PySem PySem.Spec PyProof.Rows L2
inductive D where
  | int (i : Int) | bl (b : Bool) | non | tup (l : List D) | lst (l : List D) | key (a b : Int)
structure Tb where
  P : Addr
  line : Nat
  col : Nat
  qual : Str
def TbOk (tb : Option Tb) (H : Hp) : Prop :=
  match tb with
  | none => True
  | some b => H b.P = some (.tbl #[]) ∨ ∃ c, H b.P = some (.tbl #[rawInt b.line, rawInt b.col, .ref c]) ∧ H c = some (.ext fun h => h.CodeRec (.ref c) b.qual)
def noTbl (o : HO) : Prop := ∀ ps, o ≠ .tbl ps
theorem noTbl_lst {xs : List V} : noTbl (.lst xs) := fun _ h => nomatch h
theorem noTbl_tup {xs : List V} : noTbl (.tup xs) := fun _ h => nomatch h
theorem noTbl_dT {xs : List (List Key × V)} : noTbl (.dT xs) := fun _ h => nomatch h
theorem noTbl_frz {o : Obj} {u : HO} : noTbl (.frz o u) := fun _ h => nomatch h
structure Sm (tb : Option Tb) (H H' : Hp) : Prop where
  keep : ∀ b o, H b = some o → noTbl o → H' b = some o
  dom : ∀ b o, H b = some o → ∃ u, H' b = some u
  tb : TbOk tb H → TbOk tb H'
section
variable {tb : Option Tb} {H H' H'' G G' : Hp} {A : List Addr} {K : PySem.W.Frag}
theorem Sm.refl : Sm tb H H := ⟨fun _ _ h _ => h, fun _ o h => ⟨o, h⟩, fun h => h⟩
theorem Sm.trans (a : Sm tb H H') (b : Sm tb H' H'') : Sm tb H H'' := ⟨fun c o h n => b.keep c o (a.keep c o h n) n, fun c o h => let ⟨u, q⟩ := a.dom c o h; b.dom c u q, fun h => b.tb (a.tb h)⟩
theorem Sm.of (s : Same H H') : Sm tb H H' := ⟨fun b o h _ => s b o h, fun b o h => ⟨o, s b o h⟩, fun h => by
  cases tb with
  | none => trivial
  | some t =>
    rcases h with h | ⟨c, h, h'⟩
    · exact .inl (s _ _ h)
    · exact .inr ⟨c, s _ _ h, s _ _ h'⟩⟩
theorem Sm.free (s : Sm tb H H') {p : Addr} (h : H' p = none) : H p = none := by
  cases z : H p with
  | none => rfl
  | some u =>
    obtain ⟨o, q⟩ := s.dom p u z
    rw [h] at q
    cases q
theorem same_laid {p : Addr} {o : HO} (h : H p = none) : Same H (upd H p o) := fun b u e => by
  rw [upd_ne (ne_of_none e h)]
  exact e
theorem Sm.laid {p : Addr} {o : HO} (h : H p = none) : Sm tb H (upd H p o) := .of (same_laid h)
theorem TbOk.write {p : Addr} {o u : HO} (h : H p = some o) (n : noTbl o) (ne : ∀ φ, o ≠ .ext φ) (t : TbOk tb H) : TbOk tb (upd H p u) := by
  cases tb with
  | none => trivial
  | some b =>
    rcases t with t | ⟨c, t, t'⟩
    · exact .inl (by rw [upd_ne (ne_of t h (fun e => n _ e.symm))]; exact t)
    · exact .inr ⟨c, by rw [upd_ne (ne_of t h (fun e => n _ e.symm))]; exact t, by rw [upd_ne (ne_of t' h (fun e => ne _ e.symm))]; exact t'⟩
def hid (A : List Addr) (H : Hp) : Hp := fun b => if b ∈ A then none else H b
theorem hid_iff {b : Addr} {o : HO} : hid A H b = some o ↔ b ∉ A ∧ H b = some o := by
  unfold hid
  by_cases h : b ∈ A
  · simp [h]
  · simp [h]
theorem hid_nil : hid [] H = H := by
  funext b
  simp [hid]
theorem hid_upd {p : Addr} {o : HO} (h : p ∈ A) : hid A (upd H p o) = hid A H := by
  funext b
  unfold hid
  by_cases hb : b ∈ A
  · simp [hb]
  · have e : b ≠ p := fun z => hb (z ▸ h)
    simp [hb, upd_ne e]
def Le (G G' : Hp) : Prop := ∀ b o, G b = some o → noTbl o → G' b = some o
theorem Le.refl : Le G G := fun _ _ h _ => h
theorem Sm.le (s : Sm tb H H') : Le (hid A H) (hid A H') := fun b o h n => by
  obtain ⟨h1, h2⟩ := hid_iff.mp h
  exact hid_iff.mpr ⟨h1, s.keep b o h2 n⟩
theorem le_hid : Le (hid A H) H := fun b o h _ => (hid_iff.mp h).2
theorem le_sub {A' : List Addr} (h : ∀ a ∈ A, a ∈ A') : Le (hid A' H) (hid A H) := fun b o e _ => by
  obtain ⟨h1, h2⟩ := hid_iff.mp e
  exact hid_iff.mpr ⟨fun z => h1 (h b z), h2⟩
theorem le_upd {p : Addr} {o : HO} (h : H p = none) : Le (hid A H) (hid A (upd H p o)) := (Sm.laid (tb := none) h).le
def DomOk (A : List Addr) (H : Hp) : Prop := ∀ a ∈ A, ∃ o, H a = some o ∧ noTbl o ∧ ∀ xs, o ≠ .tup xs
theorem DomOk.sm (d : DomOk A H) (s : Sm tb H H') : DomOk A H' := fun a h => let ⟨o, e, n⟩ := d a h; ⟨o, s.keep a o e n.1, n⟩
theorem DomOk.new (d : DomOk A H) {p : Addr} (h : H p = none) : p ∉ A := fun z => by
  obtain ⟨o, e, _⟩ := d p z
  rw [h] at e
  cases e
theorem DomOk.nil : DomOk [] H := fun _ h => nomatch h
theorem sqL_le {a : Addr} {xs : List V} (l : Le G G') (h : SqL K G a xs) : SqL K G' a xs := by
  rcases h with (h | ⟨o, h⟩) | h
  · exact .inl (.inl (l _ _ h noTbl_lst))
  · exact .inl (.inr ⟨o, l _ _ h noTbl_frz⟩)
  · exact .inr h
theorem sqT_le {a : Addr} {xs : List V} (l : Le G G') (h : SqT K G a xs) : SqT K G' a xs := by
  rcases h with (h | ⟨o, h⟩) | h
  · exact .inl (.inl (l _ _ h noTbl_tup))
  · exact .inl (.inr ⟨o, l _ _ h noTbl_frz⟩)
  · exact .inr h
mutual
inductive Dq (K : PySem.W.Frag) (H : Hp) : V → D → Prop
  | non : Dq K H .non .non
  | bl (b : Bool) : Dq K H (.bl b) (.bl b)
  | int (i : Int) : Dq K H (.int i) (.int i)
  | lst {a : Addr} {xs : List V} {ds : List D} : SqL K H a xs → Dqs K H xs ds → Dq K H (.ref a) (.lst ds)
  | tup {a : Addr} {xs : List V} {ds : List D} : SqT K H a xs → Dqs K H xs ds → Dq K H (.ref a) (.tup ds)
  | key {a : Addr} {x y : Int} : H a = some (.tup [.int x, .int y]) → Dq K H (.ref a) (.key x y)
inductive Dqs (K : PySem.W.Frag) (H : Hp) : List V → List D → Prop
  | nil : Dqs K H [] []
  | cons {v : V} {vs : List V} {d : D} {ds : List D} : Dq K H v d → Dqs K H vs ds → Dqs K H (v :: vs) (d :: ds)
end
mutual
theorem Dq.le (l : Le G G') : ∀ {v : V} {d : D}, Dq K G v d → Dq K G' v d
  | _, _, .non => .non
  | _, _, .bl b => .bl b
  | _, _, .int i => .int i
  | _, _, .lst s h => .lst (sqL_le l s) (Dqs.le l h)
  | _, _, .tup s h => .tup (sqT_le l s) (Dqs.le l h)
  | _, _, .key h => .key (l _ _ h noTbl_tup)
theorem Dqs.le (l : Le G G') : ∀ {vs : List V} {ds : List D}, Dqs K G vs ds → Dqs K G' vs ds
  | _, _, .nil => .nil
  | _, _, .cons h t => .cons (Dq.le l h) (Dqs.le l t)
end
theorem Dqs.length : ∀ {vs : List V} {ds : List D}, Dqs K G vs ds → vs.length = ds.length
  | _, _, .nil => rfl
  | _, _, .cons _ t => by rw [List.length_cons, List.length_cons, Dqs.length t]
theorem Dqs.get : ∀ {vs : List V} {ds : List D} {i : Nat} {d : D}, Dqs K G vs ds → ds[i]? = some d → ∃ v, vs[i]? = some v ∧ Dq K G v d
  | _, _, _, _, .nil, e => by simp at e
  | _, _, 0, _, .cons h _, e => by
    simp at e
    subst e
    exact ⟨_, rfl, h⟩
  | _, _, i + 1, d, .cons _ t, e => by
    obtain ⟨v, h1, h2⟩ := Dqs.get (i := i) (d := d) t (by simpa using e)
    exact ⟨v, by simpa using h1, h2⟩
theorem Dqs.get' : ∀ {vs : List V} {ds : List D} {i : Nat} {v : V}, Dqs K G vs ds → vs[i]? = some v → ∃ d, ds[i]? = some d ∧ Dq K G v d
  | _, _, _, _, .nil, e => by simp at e
  | _, _, 0, _, .cons h _, e => by
    simp at e
    subst e
    exact ⟨_, rfl, h⟩
  | _, _, i + 1, v, .cons _ t, e => by
    obtain ⟨d, h1, h2⟩ := Dqs.get' (i := i) (v := v) t (by simpa using e)
    exact ⟨d, by simpa using h1, h2⟩
theorem Dqs.append : ∀ {vs ws : List V} {ds es : List D}, Dqs K G vs ds → Dqs K G ws es → Dqs K G (vs ++ ws) (ds ++ es)
  | _, _, _, _, .nil, h => h
  | _, _, _, _, .cons h t, q => .cons h (Dqs.append t q)
theorem Dqs.one {v : V} {d : D} (h : Dq K G v d) : Dqs K G [v] [d] := .cons h .nil
theorem Dqs.ints : ∀ (ns : List Int), Dqs K G (ns.map V.int) (ns.map D.int)
  | [] => .nil
  | n :: r => .cons (.int n) (Dqs.ints r)
theorem Dqs.of_ints : ∀ {ns : List Int} {vs : List V}, Dqs K G vs (ns.map D.int) → vs = ns.map V.int
  | [], _, h => by cases h; rfl
  | n :: r, _, h => by
    cases h with
    | cons h1 h2 =>
      cases h1
      rw [Dqs.of_ints h2]
      rfl
theorem Dq.pair {v : V} {x y : Int} (h : Dq K G v (.key x y)) : Dq K G v (.tup [.int x, .int y]) := by
  cases h with
  | key h => exact .tup (SqT.of h) (.cons (.int x) (.cons (.int y) .nil))
theorem atI_dq {vs : List V} {ds : List D} {i : Int} {d : D} (h : Dqs K G vs ds) (e : atI ds i = some d) : ∃ v, atI vs i = some v ∧ Dq K G v d := by
  unfold atI at e ⊢
  rw [h.length]
  cases q : ixN ds.length i with
  | none => rw [q] at e; cases e
  | some j =>
    rw [q] at e
    obtain ⟨v, h1, h2⟩ := h.get (i := j) e
    exact ⟨v, h1, h2⟩
end
abbrev Ss := List (Option D)
inductive Ow where
  | no | lst (i : Nat) (ds : List D) | dic (i : Nat) (ks : List (Int × Int))
def Ow.at (i : Nat) : Ow → Bool
  | .no => false
  | .lst j _ => i == j
  | .dic j _ => i == j
def keyE (k : Int × Int) : List Key × V := ([.inl k.1, .inl k.2], .bl true)
def OwOk (K : PySem.W.Frag) (H G : Hp) (σ : L2.St) (po : List Addr) : Ow → Prop
  | .no => po = []
  | .lst i ds => ∃ p xs, po = [p] ∧ σ[i]? = some (some (.ref p)) ∧ H p = some (.lst xs) ∧ Dqs K G xs ds
  | .dic i ks => ∃ p, po = [p] ∧ σ[i]? = some (some (.ref p)) ∧ H p = some (.dT (ks.map keyE))
structure Stt (K : PySem.W.Frag) (tb : Option Tb) (A : List Addr) (H0 H : Hp) (σ : L2.St) (ss : Ss) (ow : Ow) (po : List Addr) : Prop where
  dom : DomOk A H0
  tbl : TbOk tb H
  sm : Sm tb H0 H
  new : ∀ p ∈ po, H0 p = none
  len : σ.length = ss.length
  env : ∀ (i : Nat) (d : D), ss[i]? = some (some d) → ∃ v, σ[i]? = some (some v) ∧ Dq K (hid (po ++ A) H) v d
  own : OwOk K H (hid (po ++ A) H) σ po ow
section
variable {K : PySem.W.Frag} {tb : Option Tb} {A po : List Addr} {H0 H H' : Hp} {σ : L2.St} {ss : Ss} {ow : Ow}
theorem Stt.step (s : Stt K tb A H0 H σ ss ow po) (m : Sm tb H H') : Stt K tb A H0 H' σ ss ow po := by
  refine ⟨s.dom, m.tb s.tbl, s.sm.trans m, s.new, s.len, fun i d e => ?_, ?_⟩
  · obtain ⟨v, h1, h2⟩ := s.env i d e
    exact ⟨v, h1, h2.le m.le⟩
  · have o := s.own
    cases ow with
    | no => exact o
    | lst i ds =>
      obtain ⟨p, xs, h1, h2, h3, h4⟩ := o
      exact ⟨p, xs, h1, h2, m.keep _ _ h3 noTbl_lst, h4.le m.le⟩
    | dic i ks =>
      obtain ⟨p, h1, h2, h3⟩ := o
      exact ⟨p, h1, h2, m.keep _ _ h3 noTbl_dT⟩
theorem Stt.domP (s : Stt K tb A H0 H σ ss ow po) : DomOk (po ++ A) H := fun a h => by
  rcases List.mem_append.mp h with h | h
  · have o := s.own
    cases ow with
    | no =>
      have e : po = [] := o
      rw [e] at h
      cases h
    | lst i ds =>
      obtain ⟨p, xs, h1, h2, h3, h4⟩ := o
      rw [h1] at h
      have e : a = p := by simpa using h
      subst e
      exact ⟨_, h3, noTbl_lst, fun _ z => nomatch z⟩
    | dic i ks =>
      obtain ⟨p, h1, h2, h3⟩ := o
      rw [h1] at h
      have e : a = p := by simpa using h
      subst e
      exact ⟨_, h3, noTbl_dT, fun _ z => nomatch z⟩
  · exact s.dom.sm s.sm a h
theorem Stt.apart (s : Stt K tb A H0 H σ ss ow po) {p : Addr} (h : p ∈ po) : p ∉ A := fun z => by
  obtain ⟨o, e, _⟩ := s.dom p z
  rw [s.new p h] at e
  cases e
theorem set_ne {α : Type} {l : List α} {i j : Nat} {x : α} (h : j ≠ i) : (l.set i x)[j]? = l[j]? := List.getElem?_set_ne (Ne.symm h)
theorem Stt.set (s : Stt K tb A H0 H σ ss ow po) {i : Nat} {v : V} {d : D} (h : Dq K (hid (po ++ A) H) v d) (hi : ow.at i = false) : Stt K tb A H0 H (σ.set i (some v)) (ss.set i (some d)) ow po := by
  have keepsl : ∀ j : Nat, j ≠ i → (σ.set i (some v))[j]? = σ[j]? := fun j hj => set_ne hj
  refine ⟨s.dom, s.tbl, s.sm, s.new, by rw [List.length_set, List.length_set]; exact s.len, fun j e hj => ?_, ?_⟩
  · by_cases z : j = i
    · subst z
      have hl : j < (ss.set j (some d)).length := (List.getElem?_eq_some_iff.mp hj).1
      rw [List.length_set] at hl
      rw [List.getElem?_set_self hl] at hj
      have e1 : d = e := by simpa using hj
      subst e1
      exact ⟨v, List.getElem?_set_self (by rw [s.len]; exact hl), h⟩
    · rw [set_ne z] at hj
      rw [keepsl j z]
      exact s.env j e hj
  · have o := s.own
    cases ow with
    | no => exact o
    | lst k ds =>
      obtain ⟨p, xs, h1, h2, h3, h4⟩ := o
      have z : k ≠ i := fun z => by
        subst z
        simp [Ow.at] at hi
      exact ⟨p, xs, h1, by rw [keepsl k z]; exact h2, h3, h4⟩
    | dic k ks =>
      obtain ⟨p, h1, h2, h3⟩ := o
      have z : k ≠ i := fun z => by
        subst z
        simp [Ow.at] at hi
      exact ⟨p, h1, by rw [keepsl k z]; exact h2, h3⟩
end
end BS
set_option Elab.async false
set_option linter.all false
set_option maxRecDepth 100000
set_option maxHeartbeats 4000000
namespace BS
open PySem PySem.Spec PyProof.Rows L2
def tEx (K : PySem.W.Frag) (tb : Option Tb) (ss : Ss) (ow : Ow) (d : D) : TE := fun σ H Q =>
  ∃ A H0 po, Stt K tb A H0 H σ ss ow po ∧ ∀ v H', Sm tb H H' → Dq K (hid (po ++ A) H') v d → Q v H'
def tTx (K : PySem.W.Frag) (tb : Option Tb) (ss : Ss) (ow : Ow) (b : Bool) : TT := fun σ H Q =>
  ∃ A H0 po, Stt K tb A H0 H σ ss ow po ∧ ∀ H', Sm tb H H' → Q b H'
def tXs (K : PySem.W.Frag) (tb : Option Tb) (ss : Ss) (ow : Ow) (ds : List D) : TA := fun σ H Q =>
  ∃ A H0 po, Stt K tb A H0 H σ ss ow po ∧ ∀ vs H', Sm tb H H' → Dqs K (hid (po ++ A) H') vs ds → Q vs H'
inductive Out where
  | nx (ss : Ss) (ow : Ow) | rt (d : D)
def Out.ok (K : PySem.W.Frag) (tb : Option Tb) (A : List Addr) (H0 : Hp) (Z : Ends) : Out → Prop
  | .nx ss ow => ∀ σ H po, Stt K tb A H0 H σ ss ow po → Z.nx σ H
  | .rt d => ∀ v H, Sm tb H0 H → Dq K (hid A H) v d → Z.rt v H
def tSx (K : PySem.W.Frag) (tb : Option Tb) (ss : Ss) (ow : Ow) (o : Out) : TS := fun Z σ H =>
  ∃ A H0 po, Stt K tb A H0 H σ ss ow po ∧ o.ok K tb A H0 Z
abbrev Ex (tb : Option Tb) (X : Cx) (e : Expr) (ss : Ss) (ow : Ow) (d : D) : Prop := PE X e (tEx X.K tb ss ow d)
abbrev Tx (tb : Option Tb) (X : Cx) (e : Expr) (ss : Ss) (ow : Ow) (b : Bool) : Prop := PT X e (tTx X.K tb ss ow b)
abbrev Wx (tb : Option Tb) (X : Cx) (e : Expr) (ss : Ss) (ow : Ow) (b : Bool) : Prop := PW X e (tTx X.K tb ss ow b)
abbrev Xs (tb : Option Tb) (X : Cx) (es : List Expr) (ss : Ss) (ow : Ow) (ds : List D) : Prop := PA X es (tXs X.K tb ss ow ds)
abbrev Sx (tb : Option Tb) (X : Cx) (st : Stmt) (ss : Ss) (ow : Ow) (o : Out) : Prop := PS X st (tSx X.K tb ss ow o)
abbrev Bx (tb : Option Tb) (X : Cx) (st : List Stmt) (ss : Ss) (ow : Ow) (o : Out) : Prop := PSs X st (tSx X.K tb ss ow o)
section
variable {X : Cx} {tb : Option Tb} {ss ss' : Ss} {ow ow' : Ow} {e a b c : Expr} {es : List Expr} {pos : Pos} {d d1 d2 : D} {ds : List D} {o : Out}
theorem PE.imp {t t' : TE} (h : PE X e t) (k : ∀ σ H Q, t' σ H Q → t σ H Q) : PE X e t' := fun pins s σ H Q I q => h pins s σ H Q I (k σ H Q q)
theorem PT.imp {t t' : TT} (h : PT X e t) (k : ∀ σ H Q, t' σ H Q → t σ H Q) : PT X e t' := fun pins s σ H Q I q => h pins s σ H Q I (k σ H Q q)
theorem PW.imp {t t' : TT} (h : PW X e t) (k : ∀ σ H Q, t' σ H Q → t σ H Q) : PW X e t' := fun w pins s σ H Q I q => h w pins s σ H Q I (k σ H Q q)
theorem PA.imp {t t' : TA} (h : PA X es t) (k : ∀ σ H Q, t' σ H Q → t σ H Q) : PA X es t' := fun p pins s σ H Q I q => h p pins s σ H Q I (k σ H Q q)
theorem PS.imp {st : Stmt} {t t' : TS} (h : PS X st t) (k : ∀ D σ H, t' D σ H → t D σ H) : PS X st t' := fun pins s σ H D I q => h pins s σ H D I (k D σ H q)
theorem PSs.imp {st : List Stmt} {t t' : TS} (h : PSs X st t) (k : ∀ D σ H, t' D σ H → t D σ H) : PSs X st t' := fun pins s σ H D I q => h pins s σ H D I (k D σ H q)
theorem Ex.cast (h : Ex tb X e ss ow d1) (q : d1 = d) : Ex tb X e ss ow d := q ▸ h
theorem Tx.cast {k k' : Bool} (h : Tx tb X e ss ow k) (q : k = k') : Tx tb X e ss ow k' := q ▸ h
theorem Ex.pair {x y : Int} (h : Ex tb X e ss ow (.key x y)) : Ex tb X e ss ow (.tup [.int x, .int y]) :=
  PE.imp h fun σ H Q ⟨A, H0, po, S, k⟩ => ⟨A, H0, po, S, fun v H' m q => k v H' m q.pair⟩
theorem ex_v (i : Nat) {x : Str} (hN : X.N[i]? = some x := by rfl) (hs : ss[i]? = some (some d) := by rfl) (hv : Vis X.env.scope x := by first | exact Or.inl rfl | exact Or.inr (Or.inl rfl) | exact Or.inr (Or.inr rfl)) (hd : (x == ("__debug__" : Str)) = false := by decide)
    (hcd : (x == ("__classdict__" : Str)) = false := by decide) : Ex tb X (.Name x pos) ss ow d :=
  PE.imp (pe_var hN hv hd hcd) fun σ H Q ⟨A, H0, po, S, k⟩ => let ⟨v, e, q⟩ := S.env i d hs; ⟨v, e, k v H .refl q⟩
theorem ex_int {i : Int} {j} : Ex tb X (.Constant (.int i) j pos) ss ow (.int i) :=
  PE.imp pe_int fun σ H Q ⟨A, H0, po, S, k⟩ => k _ H .refl (.int i)
theorem ex_bl {i : Bool} {j} : Ex tb X (.Constant (.bool i) j pos) ss ow (.bl i) :=
  PE.imp pe_bl fun σ H Q ⟨A, H0, po, S, k⟩ => k _ H .refl (.bl i)
theorem ex_gi {x : Str} {i : Int} {t : Tok} (hm : X.mg x = some (.int i t)) (hg : Gl X x := by rfl) (hd : (x == ("__debug__" : Str)) = false := by decide) : Ex tb X (.Name x pos) ss ow (.int i) :=
  PE.imp (pe_glob hg hm (v := .int i) ⟨t, rfl⟩ hd) fun σ H Q ⟨A, H0, po, S, k⟩ => k _ H .refl (.int i)
theorem ex_gr {x : Str} {r : Addr} (hm : X.mg x = some (.ref r)) (hd' : ∀ G, Dq X.K G (.ref r) d) (hg : Gl X x := by rfl) (hd : (x == ("__debug__" : Str)) = false := by decide) : Ex tb X (.Name x pos) ss ow d :=
  PE.imp (pe_glob hg hm (v := .ref r) rfl hd) fun σ H Q ⟨A, H0, po, S, k⟩ => k _ H .refl (hd' _)
def RD (K : PySem.W.Frag) (tb : Option Tb) (r : R2) (d1 d2 d : D) : Prop := ∀ (A : List Addr) (H : Hp) (x y : V) (Q : VK), DomOk A H → TbOk tb H → Dq K (hid A H) x d1 → Dq K (hid A H) y d2 →
  (∀ v H', Sm tb H H' → Dq K (hid A H') v d → Q v H') → r x y H Q
theorem rd_i {C : Int → Int → Prop} {g : Int → Int → V} {i j : Int} (hc : C i j) (hd : ∀ G, Dq X.K G (g i j) d) : RD X.K tb (rI C g) (.int i) (.int j) d := fun A H x y Q _ _ hx hy k => by
  cases hx
  cases hy
  exact ⟨i, j, rfl, rfl, hc, k _ H .refl (hd _)⟩
theorem rd_i0 {g : Int → Int → V} {i j : Int} (hd : ∀ G, Dq X.K G (g i j) d) : RD X.K tb (rI0 g) (.int i) (.int j) d := fun A H x y Q _ _ hx hy k => by
  cases hx
  cases hy
  exact ⟨i, j, rfl, rfl, k _ H .refl (hd _)⟩
theorem tOp_ex {r : R2} (hr : RD X.K tb r d1 d2 d) : ∀ σ H Q, tEx X.K tb ss ow d σ H Q → tOp r (tEx X.K tb ss ow d1) (tEx X.K tb ss ow d2) σ H Q := fun σ H Q ⟨A, H0, po, S, k⟩ =>
  ⟨A, H0, po, S, fun x H1 m1 q1 => ⟨A, H0, po, S.step m1, fun y H2 m2 q2 => hr (po ++ A) H2 x y Q ((S.step m1).step m2).domP ((S.step m1).step m2).tbl (q1.le m2.le) q2 fun v H' m3 q => k v H' ((m1.trans m2).trans m3) q⟩⟩
theorem ex_op {op : Operator} {r : R2} (ho : OpR X (binaryOp op) r) (hr : RD X.K tb r d1 d2 d) (ha : Ex tb X a ss ow d1) (hb : Ex tb X b ss ow d2) : Ex tb X (.BinOp a op b pos) ss ow d :=
  PE.imp (pe_op ho ha hb) (tOp_ex hr)
theorem ex_cmp {op : CmpOp} {r : R2} (ho : OpR X (compareOp op) r) (hr : RD X.K tb r d1 d2 d) (ha : Ex tb X a ss ow d1) (hb : Ex tb X b ss ow d2) (hm : behindInMarks op b = false) : Ex tb X (.Compare a [op] [b] pos) ss ow d :=
  PE.imp (pe_cmpR ho ha hb hm) (tOp_ex hr)
theorem tx_cmp {op : CmpOp} {r : R2} {k : Bool} (ho : OpR X (compareOp op) r) (hr : RD X.K tb r d1 d2 (.bl k)) (ha : Ex tb X a ss ow d1) (hb : Ex tb X b ss ow d2) (hm : behindInMarks op b = false) : Tx tb X (.Compare a [op] [b] pos) ss ow k :=
  PT.imp (pt_cmpR ho ha hb hm) fun σ H Q ⟨A, H0, po, S, q⟩ => tOp_ex hr σ H _ ⟨A, H0, po, S, fun v H' m z => by
    cases z
    exact ⟨k, rfl, q H' m⟩⟩
variable {i j : Int}
theorem ex_add (ha : Ex tb X a ss ow (.int i)) (hb : Ex tb X b ss ow (.int j)) : Ex tb X (.BinOp a .Add b pos) ss ow (.int (i + j)) := ex_op op_add (rd_i0 fun _ => .int _) ha hb
theorem ex_sub (ha : Ex tb X a ss ow (.int i)) (hb : Ex tb X b ss ow (.int j)) : Ex tb X (.BinOp a .Sub b pos) ss ow (.int (i - j)) := ex_op op_sub (rd_i0 fun _ => .int _) ha hb
theorem op_mulOk : OpR X (binaryOp .Mult) (rI IntMulOk fun i j => .int (i * j)) := opI fun _ _ _ _ _ _ _ hc q => mul_int q hc
theorem ex_mul (ha : Ex tb X a ss ow (.int i)) (hb : Ex tb X b ss ow (.int j)) (h : IntMulOk i j) : Ex tb X (.BinOp a .Mult b pos) ss ow (.int (i * j)) := ex_op op_mulOk (rd_i h fun _ => .int _) ha hb
theorem op_fdivB : OpR X (binaryOp .FloorDiv) (rI (fun _ j => 0 < j ∧ j.natAbs.log2 < 9000) fun i j => .int (i / j)) := opI fun i j _ _ _ _ _ hc q => by
  have h1 : (0 : Int) < j := hc.1
  exact floordiv_int (by omega) (by rw [Int.fdiv_eq_ediv_of_nonneg i (by omega)]; exact q) (.inl (PyProof.noPylong_of_log2 hc.2))
theorem ex_fdiv (ha : Ex tb X a ss ow (.int i)) (hb : Ex tb X b ss ow (.int j)) (h : 0 < j) (h' : j.natAbs.log2 < 9000) : Ex tb X (.BinOp a .FloorDiv b pos) ss ow (.int (i / j)) := ex_op op_fdivB (rd_i ⟨h, h'⟩ fun _ => .int _) ha hb
theorem ex_mod (ha : Ex tb X a ss ow (.int i)) (hb : Ex tb X b ss ow (.int j)) (h : 0 < j) : Ex tb X (.BinOp a .Mod b pos) ss ow (.int (i % j)) := ex_op op_mod (rd_i h fun _ => .int _) ha hb
theorem ex_neg (ha : Ex tb X a ss ow (.int i)) : Ex tb X (.UnaryOp .USub a pos) ss ow (.int (-i)) :=
  PE.imp (pe_un un_neg ha) fun σ H Q ⟨A, H0, po, S, k⟩ => ⟨A, H0, po, S, fun x H1 m1 q1 => by
    cases q1
    exact ⟨i, rfl, k _ H1 m1 (.int _)⟩⟩
theorem tx_lt (ha : Ex tb X a ss ow (.int i)) (hb : Ex tb X b ss ow (.int j)) : Tx tb X (.Compare a [.Lt] [b] pos) ss ow (decide (i < j)) := tx_cmp op_lt (rd_i0 fun _ => .bl _) ha hb (nomark _)
theorem tx_le (ha : Ex tb X a ss ow (.int i)) (hb : Ex tb X b ss ow (.int j)) : Tx tb X (.Compare a [.LtE] [b] pos) ss ow (decide (i ≤ j)) := tx_cmp op_le (rd_i0 fun _ => .bl _) ha hb (nomark _)
theorem tx_gt (ha : Ex tb X a ss ow (.int i)) (hb : Ex tb X b ss ow (.int j)) : Tx tb X (.Compare a [.Gt] [b] pos) ss ow (decide (j < i)) := tx_cmp op_gt (rd_i0 fun _ => .bl _) ha hb (nomark _)
theorem ex_le (ha : Ex tb X a ss ow (.int i)) (hb : Ex tb X b ss ow (.int j)) : Ex tb X (.Compare a [.LtE] [b] pos) ss ow (.bl (decide (i ≤ j))) := ex_cmp op_le (rd_i0 fun _ => .bl _) ha hb (nomark _)
theorem rd_eqI {i j : Int} : RD X.K tb rEq (.int i) (.int j) (.bl (decide (i = j))) := fun A H x y Q _ _ hx hy k => by
  cases hx
  cases hy
  refine ⟨rfl, ?_⟩
  have e : decide (V.int i = V.int j) = decide (i = j) := by
    by_cases z : i = j
    · subst z; simp
    · have : V.int i ≠ V.int j := fun q => z (by injection q)
      simp [z, this]
  rw [e]
  exact k _ H .refl (.bl _)
theorem tx_eq (ha : Ex tb X a ss ow (.int i)) (hb : Ex tb X b ss ow (.int j)) : Tx tb X (.Compare a [.Eq] [b] pos) ss ow (decide (i = j)) := tx_cmp op_eq rd_eqI ha hb (nomark _)
theorem ex_eq (ha : Ex tb X a ss ow (.int i)) (hb : Ex tb X b ss ow (.int j)) : Ex tb X (.Compare a [.Eq] [b] pos) ss ow (.bl (decide (i = j))) := ex_cmp op_eq rd_eqI ha hb (nomark _)
theorem xs_nil : Xs tb X [] ss ow [] := PA.imp pa_nil fun σ H Q ⟨A, H0, po, S, k⟩ => k [] H .refl .nil
theorem xs_cons (ha : Ex tb X e ss ow d) (hr : Xs tb X es ss ow ds) (hs : starEach (e :: es) X.env = (false, eval e X.env) :: starEach es X.env := by rfl) : Xs tb X (e :: es) ss ow (d :: ds) :=
  PA.imp (pa_cons ha hr hs) fun σ H Q ⟨A, H0, po, S, k⟩ => ⟨A, H0, po, S, fun x H1 m1 q1 => ⟨A, H0, po, S.step m1, fun xs H2 m2 q2 => k _ H2 (m1.trans m2) (.cons (q1.le m2.le) q2)⟩⟩
theorem xs_one (ha : Ex tb X e ss ow d) (hs : starEach [e] X.env = [(false, eval e X.env)] := by rfl) : Xs tb X [e] ss ow [d] := xs_cons ha xs_nil hs
theorem ex_tup {x1} (h : Xs tb X es ss ow ds) (hl : ds.length ≤ 1000 := by simp) : Ex tb X (.Tuple es x1 pos) ss ow (.tup ds) :=
  PE.imp (pe_tup h) fun σ H Q ⟨A, H0, po, S, k⟩ => ⟨A, H0, po, S, fun xs H1 m1 q1 => ⟨Nat.le_of_lt (by rw [q1.length]; exact small1000 hl), fun p hp =>
    k _ _ (m1.trans (.laid hp)) (.tup (SqT.of (hid_iff.mpr ⟨(S.step m1).domP.new hp, upd_same⟩)) (q1.le (le_upd hp)))⟩⟩
theorem ex_key {x1} {x y : Int} (h : Xs tb X es ss ow [.int x, .int y]) : Ex tb X (.Tuple es x1 pos) ss ow (.key x y) :=
  PE.imp (pe_tup h) fun σ H Q ⟨A, H0, po, S, k⟩ => ⟨A, H0, po, S, fun xs H1 m1 q1 => ⟨Nat.le_of_lt (by rw [q1.length]; exact small1000 (by simp)), fun p hp => by
    have e : xs = [x, y].map V.int := Dqs.of_ints (ns := [x, y]) q1
    subst e
    exact k _ _ (m1.trans (.laid hp)) (.key (hid_iff.mpr ⟨(S.step m1).domP.new hp, upd_same⟩))⟩⟩
theorem ex_lst (h : Xs tb X es ss ow ds) (hl : ds.length ≤ 1000 := by simp) : Ex tb X (.List es pos) ss ow (.lst ds) :=
  PE.imp (pe_lst h) fun σ H Q ⟨A, H0, po, S, k⟩ => ⟨A, H0, po, S, fun xs H1 m1 q1 => ⟨Nat.le_of_lt (by rw [q1.length]; exact small1000 hl), fun p hp =>
    k _ _ (m1.trans (.laid hp)) (.lst (SqL.of (hid_iff.mpr ⟨(S.step m1).domP.new hp, upd_same⟩)) (q1.le (le_upd hp)))⟩⟩
theorem ex_ixT (ha : Ex tb X a ss ow (.tup ds)) (hb : Ex tb X b ss ow (.int i)) (h : atI ds i = some d) (hs : PlainIx b := by exact fun _ _ => rfl) : Ex tb X (.Subscript a b pos) ss ow d :=
  PE.imp (pe_ix ix_tup ha hb hs) (tOp_ex fun A H x y Q _ _ hx hy k => by
    cases hx with
    | tup s q =>
      cases hy
      obtain ⟨v, e1, e2⟩ := atI_dq q h
      exact ⟨_, _, _, v, rfl, rfl, sqT_le le_hid s, e1, k v H .refl e2⟩)
theorem ex_ixL (ha : Ex tb X a ss ow (.lst ds)) (hb : Ex tb X b ss ow (.int i)) (h : atI ds i = some d) (hs : PlainIx b := by exact fun _ _ => rfl) : Ex tb X (.Subscript a b pos) ss ow d :=
  PE.imp (pe_ix ix_list ha hb hs) (tOp_ex fun A H x y Q _ _ hx hy k => by
    cases hx with
    | lst s q =>
      cases hy
      obtain ⟨v, e1, e2⟩ := atI_dq q h
      exact ⟨_, _, _, v, rfl, rfl, sqL_le le_hid s, e1, k v H .refl e2⟩)
theorem tx_not {k : Bool} (h : Tx tb X a ss ow k) : Tx tb X (.UnaryOp .Not a pos) ss ow (!k) :=
  PT.imp (pt_not h) fun σ H Q ⟨A, H0, po, S, q⟩ => ⟨A, H0, po, S, fun H' m => q H' m⟩
variable {rest : List Expr}
theorem Wx.tx {k : Bool} (h : Wx tb X e ss ow k) : Tx tb X e ss ow k := PW.pt h
theorem tx_val {k : Bool} (h : Ex tb X e ss ow (.bl k)) (he : ∀ whole, isTrue e X.env whole = (do let v ← whole; standAt e.pos; holding [v] (truthy v)) := by intro _; rfl) : Tx tb X e ss ow k :=
  PT.imp (pt_val h he) fun σ H Q ⟨A, H0, po, S, q⟩ => ⟨A, H0, po, S, fun v H' m z => by
    cases z
    exact ⟨k, rfl, q H' m⟩⟩
theorem tx_lst (h : Ex tb X e ss ow (.lst ds)) (he : ∀ whole, isTrue e X.env whole = (do let v ← whole; standAt e.pos; holding [v] (truthy v)) := by intro _; rfl) : Tx tb X e ss ow (!ds.isEmpty) :=
  PT.imp (pt_truth h he) fun σ H Q ⟨A, H0, po, S, q⟩ => ⟨A, H0, po, S, fun v H' m z => by
    cases z with
    | lst s r =>
      refine ⟨_, .inl ⟨_, sqL_le le_hid s, ?_⟩, q H' m⟩
      cases r <;> rfl⟩
theorem ex_if {k : Bool} (hc : Tx tb X c ss ow k) (ha : k = true → Ex tb X a ss ow d) (hb : k = false → Ex tb X b ss ow d) : Ex tb X (.IfExp c a b pos) ss ow d := by
  cases k with
  | true => exact PE.imp (pe_ifExp hc (ha rfl) (tb := fun _ _ _ => False) fun _ _ _ _ _ _ z => z.elim) fun σ H Q ⟨A, H0, po, S, q⟩ => ⟨A, H0, po, S, fun H' m => iteT ⟨A, H0, po, S.step m, fun v H2 m2 z => q v H2 (m.trans m2) z⟩⟩
  | false => exact PE.imp (pe_ifExp hc (ta := fun _ _ _ => False) (fun _ _ _ _ _ _ z => z.elim) (hb rfl)) fun σ H Q ⟨A, H0, po, S, q⟩ => ⟨A, H0, po, S, fun H' m => iteF ⟨A, H0, po, S.step m, fun v H2 m2 z => q v H2 (m.trans m2) z⟩⟩
theorem ex_chain {k : Int} (ha : Ex tb X a ss ow (.int i)) (hb : Ex tb X b ss ow (.int j)) (hc : Ex tb X c ss ow (.int k)) (hm : lastMarks [.LtE, .Lt] [b, c] = false := by with_unfolding_all rfl) :
    Ex tb X (.Compare a [.LtE, .Lt] [b, c] pos) ss ow (.bl (decide (i ≤ j) && decide (j < k))) :=
  PE.imp (pe_chain op_le op_lt ha hb hc hm) fun σ H Q ⟨A, H0, po, S, q⟩ => ⟨A, H0, po, S, fun x H1 m1 q1 => ⟨A, H0, po, S.step m1, fun y H2 m2 q2 => by
    cases q1
    cases q2
    refine ⟨i, j, rfl, rfl, _, rfl, ?_⟩
    by_cases z : i ≤ j
    · rw [if_pos (by simpa using z)]
      refine ⟨A, H0, po, (S.step m1).step m2, fun w H3 m3 q3 => ?_⟩
      cases q3
      refine ⟨j, k, rfl, rfl, q _ _ ((m1.trans m2).trans m3) ?_⟩
      rw [decide_eq_true z, Bool.true_and]
      exact .bl _
    · rw [if_neg (by simpa using z)]
      refine q _ _ (m1.trans m2) ?_
      rw [decide_eq_false z, Bool.false_and]
      exact .bl _⟩⟩
theorem bx_cons {st : Stmt} {sts : List Stmt} (h1 : Sx tb X st ss ow (.nx ss' ow')) (h2 : Bx tb X sts ss' ow' o) : Bx tb X (st :: sts) ss ow o :=
  PSs.imp (pss_cons h1 h2) fun Z σ H ⟨A, H0, po, S, q⟩ => ⟨A, H0, po, S, fun σ1 H1 po1 S1 => ⟨A, H0, po1, S1, q⟩⟩
theorem bx_one {st : Stmt} (h1 : Sx tb X st ss ow o) : Bx tb X [st] ss ow o := pss_one h1
theorem bx_out {st : Stmt} {sts : List Stmt} (h1 : Sx tb X st ss ow (.rt d)) : Bx tb X (st :: sts) ss ow (.rt d) :=
  PSs.imp (pss_cons h1 (u := fun _ _ _ => False) fun _ _ _ _ _ _ z => z.elim) fun Z σ H ⟨A, H0, po, S, q⟩ => ⟨A, H0, po, S, q⟩
theorem bx_nil : Bx tb X [] ss ow (.nx ss ow) := PSs.imp pss_nil fun Z σ H ⟨A, H0, po, S, q⟩ => q σ H po S
theorem sx_ret (h : Ex tb X e ss ow d) : Sx tb X (.Return (some e) pos) ss ow (.rt d) :=
  PS.imp (ps_ret h) fun Z σ H ⟨A, H0, po, S, q⟩ => ⟨A, H0, po, S, fun v H' m z => q v H' (S.sm.trans m) (z.le (le_sub fun a h => List.mem_append_right _ h))⟩
theorem sx_set (i : Nat) {x : Str} {pos' : Pos} (h : Ex tb X e ss ow d) (hN : X.N.Nodup) (hi : X.N[i]? = some x := by rfl) (hx : Loc X.env.scope x := by first | exact Or.inl rfl | exact Or.inr rfl) (ho : ow.at i = false := by rfl)
    (hs : swapsWith e (some (.Name x pos')) pos.line X.env = pure false := by rfl) (hf : X.fn x = true ∨ X.env.scope.names.lookup x = some .local := by first | exact .inl rfl | exact .inr rfl) :
    Sx tb X (.Assign [.Name x pos'] e pos) ss ow (.nx (ss.set i (some d)) ow) :=
  PS.imp (ps_set hN hi hx h hs hf) fun Z σ H ⟨A, H0, po, S, q⟩ => ⟨A, H0, po, S, fun v H' m z => q _ _ po ((S.step m).set z ho)⟩
theorem sx_if {k : Bool} {sa sb : List Stmt} (hc : Tx tb X c ss ow k) (ha : k = true → Bx tb X sa ss ow o) (hb : k = false → Bx tb X sb ss ow o) : Sx tb X (.If c sa sb pos) ss ow o := by
  cases k with
  | true => exact PS.imp (ps_if hc (ha rfl) (u := fun _ _ _ => False) fun _ _ _ _ _ _ z => z.elim) fun Z σ H ⟨A, H0, po, S, q⟩ => ⟨A, H0, po, S, fun H' m => iteT ⟨A, H0, po, S.step m, q⟩⟩
  | false => exact PS.imp (ps_if hc (t := fun _ _ _ => False) (fun _ _ _ _ _ _ z => z.elim) (hb rfl)) fun Z σ H ⟨A, H0, po, S, q⟩ => ⟨A, H0, po, S, fun H' m => iteF ⟨A, H0, po, S.step m, q⟩⟩
end
section
variable {X : Cx} {tb : Option Tb} {ss ss' : Ss} {ow ow' : Ow} {e a b c : Expr} {es : List Expr} {pos : Pos} {d d1 d2 : D} {ds : List D} {o : Out}
theorem Stt.newOwn {K : PySem.W.Frag} {A : List Addr} {H0 H : Hp} {σ : L2.St} {i p : Nat} {xs : List V} (S : Stt K tb A H0 H σ ss .no []) (hp : H p = none) (hi : i < ss.length) (q : Dqs K (hid A H) xs ds) :
    Stt K tb A H0 (upd H p (.lst xs)) (σ.set i (some (.ref p))) (ss.set i none) (.lst i ds) [p] := by
  have S' := S.step (Sm.laid (o := .lst xs) hp)
  have hn : H0 p = none := S.sm.free hp
  have l1 : Le (hid A H) (hid ([p] ++ A) (upd H p (.lst xs))) := fun b u e n => by
    obtain ⟨e1, e2⟩ := hid_iff.mp e
    have bp : b ≠ p := ne_of_none e2 hp
    exact hid_iff.mpr ⟨by simp [bp, e1], by rw [upd_ne bp]; exact e2⟩
  refine ⟨S'.dom, S'.tbl, S'.sm, fun b hb => by rw [List.mem_singleton.mp hb]; exact hn, by rw [List.length_set, List.length_set]; exact S.len, fun j d' hj => ?_, ⟨p, xs, rfl, List.getElem?_set_self (by rw [S.len]; exact hi), upd_same, q.le l1⟩⟩
  by_cases z : j = i
  · subst z
    rw [List.getElem?_set_self hi] at hj
    cases hj
  · rw [set_ne z] at hj ⊢
    obtain ⟨v, e1, e2⟩ := S.env j d' hj
    exact ⟨v, e1, Dq.le l1 e2⟩
theorem Stt.po_no {K : PySem.W.Frag} {A po : List Addr} {H0 H : Hp} {σ : L2.St} (S : Stt K tb A H0 H σ ss .no po) : po = [] := S.own
theorem sx_own (i : Nat) {x : Str} {pos pos' pos2 : Pos} (h : Xs tb X es ss .no ds) (hN : X.N.Nodup) (hi : X.N[i]? = some x := by rfl) (hl : Nat.blt i ss.length = true := by rfl) (hd : ds.length ≤ 1000 := by simp) (hx : Loc X.env.scope x := by first | exact Or.inl rfl | exact Or.inr rfl)
    (hs : swapsWith (.List es pos2) (some (.Name x pos')) pos.line X.env = pure false := by rfl) (hf : X.fn x = true ∨ X.env.scope.names.lookup x = some .local := by first | exact .inl rfl | exact .inr rfl) :
    Sx tb X (.Assign [.Name x pos'] (.List es pos2) pos) ss .no (.nx (ss.set i none) (.lst i ds)) :=
  PS.imp (ps_set hN hi hx (pe_lst h) hs hf) fun Z σ H ⟨A, H0, po, S, q⟩ => ⟨A, H0, po, S, fun xs H' m z => by
    obtain rfl := S.po_no
    exact ⟨Nat.le_of_lt (by rw [z.length]; exact small1000 hd), fun p hp => q _ _ [p] ((S.step m).newOwn hp (Nat.blt_eq.mp hl) z)⟩⟩
theorem ex_ownLen {i : Nat} {x f : Str} {p1 p2 : Pos} (hf : f = "len" := by rfl) (hm : X.mg "len" = none) (hg : Gl X "len" := by rfl) (hN : X.N[i]? = some x := by rfl) (hv : Vis X.env.scope x := by first | exact Or.inl rfl | exact Or.inr (Or.inl rfl) | exact Or.inr (Or.inr rfl)) (hd : (x == ("__debug__" : Str)) = false := by decide)
    (hcd : (x == ("__classdict__" : Str)) = false := by decide) : Ex tb X (.Call (.Name "len" p1) [.Name x p2] [] pos) ss (.lst i ds) (.int ds.length) :=
  PE.imp (pe_callB call_len_seq hg hm PySem.boot_len (pa_cons (pe_var hN hv hd hcd) pa_nil)) fun σ H Q ⟨A, H0, po, S, k⟩ => by
    obtain ⟨p, xs, h1, h2, h3, h4⟩ := S.own
    exact ⟨.ref p, h2, p, xs, rfl, .inl (SqL.of h3), by rw [h4.length]; exact k _ H .refl (.int _)⟩
theorem ex_ownIx {i : Nat} {x : Str} {j : Int} {p2 : Pos} (hb : Ex tb X b ss (.lst i ds) (.int j)) (h : atI ds j = some d) (hN : X.N[i]? = some x := by rfl) (hs : PlainIx b := by exact fun _ _ => rfl) (hv : Vis X.env.scope x := by first | exact Or.inl rfl | exact Or.inr (Or.inl rfl) | exact Or.inr (Or.inr rfl)) (hd : (x == ("__debug__" : Str)) = false := by decide)
    (hcd : (x == ("__classdict__" : Str)) = false := by decide) : Ex tb X (.Subscript (.Name x p2) b pos) ss (.lst i ds) d :=
  PE.imp (pe_ix ix_list (pe_var hN hv hd hcd) hb hs) fun σ H Q ⟨A, H0, po, S, k⟩ => by
    obtain ⟨p, xs, h1, h2, h3, h4⟩ := S.own
    refine ⟨.ref p, h2, A, H0, po, S, fun y H1 m q => ?_⟩
    cases q
    obtain ⟨v, e1, e2⟩ := atI_dq h4 h
    exact ⟨p, xs, j, v, rfl, rfl, SqL.of (m.keep _ _ h3 noTbl_lst), e1, k v H1 m (e2.le m.le)⟩
theorem Stt.grow {K : PySem.W.Frag} {A po : List Addr} {H0 H : Hp} {σ : L2.St} {i p : Nat} {xs ys : List V} {es : List D} (S : Stt K tb A H0 H σ ss (.lst i ds) po) (hp : po = [p]) (h2 : σ[i]? = some (some (.ref p))) (h3 : H p = some (.lst xs)) (q : Dqs K (hid (po ++ A) H) ys es) :
    Stt K tb A H0 (upd H p (.lst ys)) σ ss (.lst i es) po := by
  subst hp
  have e : hid ([p] ++ A) (upd H p (.lst ys)) = hid ([p] ++ A) H := hid_upd (by simp)
  have n0 := S.new p (by simp)
  refine ⟨S.dom, S.tbl.write h3 noTbl_lst (fun _ z => nomatch z), ⟨fun b u e n => ?_, fun b u e => ?_, fun t => (S.sm.tb t).write h3 noTbl_lst (fun _ z => nomatch z)⟩, S.new, S.len, fun j d' hj => ?_, ⟨p, ys, rfl, h2, upd_same, by rw [e]; exact q⟩⟩
  · rw [upd_ne (ne_of_none e n0)]
    exact S.sm.keep b u e n
  · rw [upd_ne (ne_of_none e n0)]
    exact S.sm.dom b u e
  · rw [e]
    exact S.env j d' hj
theorem sx_append (i : Nat) {x : Str} {p1 p2 p3 : Pos} (h : Ex tb X e ss (.lst i ds) d) (hl : ds.length < 16777216) (hN : X.N[i]? = some x := by rfl) (hv : Vis X.env.scope x := by first | exact Or.inl rfl | exact Or.inr (Or.inl rfl) | exact Or.inr (Or.inr rfl)) (hd : (x == ("__debug__" : Str)) = false := by decide)
    (hcd : (x == ("__classdict__" : Str)) = false := by decide) (hb : attributeBase (.Name x p1) "append" X.env (eval (.Name x p1) X.env) = eval (.Name x p1) X.env := by rfl) (hline : (p2.endLine == p3.line) = true := by rfl) (hst : starEach [e] X.env = [(false, eval e X.env)] := by rfl)
    (hfew : ((backTo p3 (starEach [e] X.env)).all (fun x => !x.1) && (backToKw p3 (keywordEach [] X.env)).all (fun x => x.1.isSome) && decide (([e] : List Expr).length + ([] : List Keyword).length + (if ([] : List Keyword).isEmpty then 0 else 1) < 30)) = true := by rfl)
    (hsw : swapsWith (.Call (.Attribute (.Name x p1) "append" p2) [e] [] p3) none pos.line X.env = pure false := by rfl) :
    Sx tb X (.Expr (.Call (.Attribute (.Name x p1) "append" p2) [e] [] p3) pos) ss (.lst i ds) (.nx ss (.lst i (ds ++ [d]))) :=
  PS.imp (ps_expr (pe_bm PySem.F.plainAttrs_list PySem.F.slot_list_append PySem.F.type_list_append mt_append (pe_var hN hv hd hcd) (xs_one h hst) hb hfew hline hst rfl) hsw) fun Z σ H ⟨A, H0, po, S, q⟩ => by
    obtain ⟨p, xs, h1, h2, h3, h4⟩ := S.own
    refine ⟨.ref p, h2, .inl ⟨rfl, _, SqL.of h3⟩, A, H0, po, S, fun vs H' m z => ?_⟩
    have h3' := m.keep _ _ h3 noTbl_lst
    cases z with
    | cons z1 z2 =>
      cases z2
      exact ⟨p, xs, _, rfl, rfl, h3', by rw [h4.length, sizeLine_eq]; exact hl, q _ _ po ((S.step m).grow h1 h2 h3' ((h4.le m.le).append (.one z1)))⟩
theorem sx_retOwn {i : Nat} {x : Str} {p1 : Pos} (hN : X.N[i]? = some x := by rfl) (hv : Vis X.env.scope x := by first | exact Or.inl rfl | exact Or.inr (Or.inl rfl) | exact Or.inr (Or.inr rfl)) (hd : (x == ("__debug__" : Str)) = false := by decide)
    (hcd : (x == ("__classdict__" : Str)) = false := by decide) : Sx tb X (.Return (some (.Name x p1)) pos) ss (.lst i ds) (.rt (.lst ds)) :=
  PS.imp (ps_ret (pe_var hN hv hd hcd)) fun Z σ H ⟨A, H0, po, S, q⟩ => by
    obtain ⟨p, xs, h1, h2, h3, h4⟩ := S.own
    have pA : p ∉ A := S.apart (by rw [h1]; simp)
    exact ⟨.ref p, h2, q _ _ S.sm (.lst (SqL.of (hid_iff.mpr ⟨pA, h3⟩)) (h4.le (le_sub fun a h => List.mem_append_right _ h)))⟩
end
end BS
set_option Elab.async false
set_option linter.all false
set_option maxRecDepth 100000
set_option maxHeartbeats 4000000
namespace BS
open PySem PySem.Spec PyProof.Rows L2
mutual
def D.py : D → PyData
  | .int i => .int i
  | .bl b => .bool b
  | .non => .none
  | .tup l => .tuple (pys l)
  | .lst l => .list (pys l)
  | .key a b => .tuple [.int a, .int b]
def pys : List D → List PyData
  | [] => []
  | d :: r => d.py :: pys r
end
section
variable {K : PySem.W.Frag} {G : Hp}
mutual
theorem Dq.dp : ∀ {v : V} {d : D}, Dq K G v d → Dp K G v d.py
  | _, _, .non => by simp only [D.py]; exact .non
  | _, _, .bl b => by simp only [D.py]; exact .bl b
  | _, _, .int i => by simp only [D.py]; exact .int i
  | _, _, .lst s h => by simp only [D.py]; exact .lst s (Dqs.dp h)
  | _, _, .tup s h => by simp only [D.py]; exact .tup s (Dqs.dp h)
  | _, _, .key h => by simp only [D.py]; exact .tup (SqT.of h) (.cons (.int _) (.cons (.int _) .nil))
theorem Dqs.dp : ∀ {vs : List V} {ds : List D}, Dqs K G vs ds → DpAll K G vs (pys ds)
  | _, _, .nil => by simp only [pys]; exact .nil
  | _, _, .cons h t => by simp only [pys]; exact .cons (Dq.dp h) (Dqs.dp t)
end
end
section
variable {X : Cx} {tb : Option Tb} {ss ss' : Ss} {ow ow' : Ow} {e a b c : Expr} {es : List Expr} {pos : Pos} {d d1 d2 : D} {ds : List D} {o : Out} {k : Nat}
theorem rd_eqD (s1 : SeqAt.shaped d1.py = true) (s2 : SeqAt.shaped d2.py = true) : RD X.K tb (rEqD X.K) d1 d2 (.bl (PyData.eqv d1.py d2.py)) := fun A H x y Q _ _ hx hy q =>
  ⟨_, _, (hx.le le_hid).dp, (hy.le le_hid).dp, s1, s2, q _ H .refl (.bl _)⟩
theorem rd_neD (s1 : SeqAt.shaped d1.py = true) (s2 : SeqAt.shaped d2.py = true) : RD X.K tb (rNeD X.K) d1 d2 (.bl (!PyData.eqv d1.py d2.py)) := fun A H x y Q _ _ hx hy q =>
  ⟨_, _, (hx.le le_hid).dp, (hy.le le_hid).dp, s1, s2, q _ H .refl (.bl _)⟩
theorem tx_eqD (hr : Room k X.A) (ha : Ex tb X a ss ow d1) (hb : Ex tb X b ss ow d2) (s1 : SeqAt.shaped d1.py = true) (s2 : SeqAt.shaped d2.py = true) : Tx tb X (.Compare a [.Eq] [b] pos) ss ow (PyData.eqv d1.py d2.py) :=
  tx_cmp (op_eqD hr.units) (rd_eqD s1 s2) ha hb (nomark _)
theorem tx_neD (hr : Room k X.A) (ha : Ex tb X a ss ow d1) (hb : Ex tb X b ss ow d2) (s1 : SeqAt.shaped d1.py = true) (s2 : SeqAt.shaped d2.py = true) : Tx tb X (.Compare a [.NotEq] [b] pos) ss ow (!PyData.eqv d1.py d2.py) :=
  tx_cmp (op_neD hr.units) (rd_neD s1 s2) ha hb (nomark _)
end
def spD (K : PySem.W.Frag) (tb : Option Tb) (n : Nat) (pre : List D → D → Prop) : Sp := fun vs H Q _ =>
  ∃ A args d, DomOk A H ∧ TbOk tb H ∧ Dqs K (hid A H) vs args ∧ args.length = n ∧ pre args d ∧ ∀ v H', Sm tb H H' → Dq K (hid A H') v d → Q v H'
def Fx (P : Program) (w : World) (K : PySem.W.Frag) (mg : Str → Option Value) (base : Heap) (tb : Option Tb) (x : Str) (k n : Nat) (pre : List D → D → Prop) : Prop :=
  ∃ f fd ps, mg x = some (.ref f) ∧ PySem.W.keepIn K (.ref f) = true ∧ Binds K fd ps [] ∧ FnOk P w K mg base CX0 k f fd ps (spD K tb n pre)
section
variable {P : Program} {w : World} {K : PySem.W.Frag} {mg : Str → Option Value} {base : Heap}
theorem fn_D {tb : Option Tb} {x : Str} {st : Stmt} {f : Addr} {fd : FuncData} {N ps : List Str} {k n : Nat} {pre : List D → D → Prop} (F : Fun K x x st f fd) (S : FnScope N ps (defScope st)) (hn : ps.length = n)
    (body : ∀ (cdv : Value) (A : Around) (outer : List Env) (s : Shared) (H : Hp) (E : XK) (args : List D) (d : D), Room k (A.deeper (envOfC x (defScope st) s.heap.objs.size f cdv)) → args.length = n → pre args d →
      Bx tb (cxOf CX0 P w K mg base N x (defScope st) f cdv A outer s H E).nox (defBody st) (args.map some ++ List.replicate (N.length - n) none) .no (.rt d)) :
    FnOk P w K mg base CX0 (k + 1) f fd ps (spD K tb n pre) := by
  refine F.ok S (fun vs H Q E h => ?_) (fun cdv A outer s H vs Q E hr h => ?_)
  · obtain ⟨A, args, d, _, _, h1, h2, _⟩ := h
    rw [h1.length, h2, hn]
  · obtain ⟨Ah, args, d, hd, ht, h1, h2, hp, q⟩ := h
    refine ⟨_, body cdv A outer s H E args d hr h2 hp, Ah, H, [], ⟨hd, ht, .refl, (fun _ h => nomatch h), ?_, fun i d' e => ?_, rfl⟩, fun v H' m z => q v H' m z⟩
    · show (L2.start N vs).length = _
      unfold L2.start
      rw [List.length_append, List.length_append, List.length_map, List.length_map, List.length_replicate, List.length_replicate, h1.length, h2]
    · have hl := h1.length
      by_cases hi : i < args.length
      · rw [List.getElem?_append_left (by simpa using hi), List.getElem?_map] at e
        cases z : args[i]? with
        | none => rw [z] at e; cases e
        | some d2 =>
          rw [z] at e
          have e2 : d2 = d' := by simpa using e
          subst e2
          obtain ⟨v, e1, e3⟩ := h1.get z
          refine ⟨v, ?_, e3⟩
          unfold L2.start
          rw [List.getElem?_append_left (by rw [List.length_map, hl]; exact hi), List.getElem?_map, e1]
          rfl
      · rw [List.getElem?_append_right (by simpa using hi), List.getElem?_replicate] at e
        split at e <;> cases e
theorem fx_of {tb : Option Tb} {x : Str} {st : Stmt} {f : Addr} {fd : FuncData} {N ps : List Str} {k n : Nat} {pre : List D → D → Prop} (F : Fun K x x st f fd) (hm : mg x = some (.ref f)) (hb : Binds K fd ps []) (S : FnScope N ps (defScope st)) (hn : ps.length = n)
    (body : ∀ (cdv : Value) (A : Around) (outer : List Env) (s : Shared) (H : Hp) (E : XK) (args : List D) (d : D), Room k (A.deeper (envOfC x (defScope st) s.heap.objs.size f cdv)) → args.length = n → pre args d →
      Bx tb (cxOf CX0 P w K mg base N x (defScope st) f cdv A outer s H E).nox (defBody st) (args.map some ++ List.replicate (N.length - n) none) .no (.rt d)) :
    Fx P w K mg base tb x (k + 1) n pre := ⟨f, fd, ps, hm, F.kp, hb, fn_D F S hn body⟩
theorem bindsTo_of {x qual : Str} {st : Stmt} {f : Addr} {fd : FuncData} {ps : List Str} (F : Fun K x qual st f fd)
    (h : ∀ (kV doc pm : Value) (an : Option Addr) (cdv ct : Value) (us : List Value), us.length = ps.length → bindArgs (PySem.W.fnOf x qual (defArgs st) (defBody st) (defScope st) .none kV doc pm an cdv ct) ⟨us, []⟩ = pure (ps.zip us)) :
    ∀ (s : Shared) (us : List Value), us.length = ps.length → BindsTo s fd ⟨us, []⟩ (ps.zip us) := by
  obtain ⟨oc, od, kV, doc, pm, an, cdv, ct, osl, rfl, lk, hcd⟩ := F.ex
  exact fun s us hl => .of_eq (h kV doc pm an cdv ct us hl)
theorem Fx.mono {tb : Option Tb} {x : Str} {j k n : Nat} {pre : List D → D → Prop} (F : Fx P w K mg base tb x j n pre) (h : j ≤ k) : Fx P w K mg base tb x k n pre :=
  let ⟨f, fd, ps, h1, h2, h3, h4⟩ := F; ⟨f, fd, ps, h1, h2, h3, h4.mono h⟩
theorem Fx.imp {tb : Option Tb} {x : Str} {k n : Nat} {pre pre' : List D → D → Prop} (F : Fx P w K mg base tb x k n pre) (h : ∀ a d, pre' a d → pre a d) : Fx P w K mg base tb x k n pre' :=
  let ⟨f, fd, ps, h1, h2, h3, h4⟩ := F
  ⟨f, fd, ps, h1, h2, h3, h4.imp fun vs H Q E ⟨A, args, d, q1, q2, q3, q4, q5, q6⟩ => ⟨A, args, d, q1, q2, q3, q4, h _ _ q5, q6⟩⟩
end
section
variable {X : Cx} {tb : Option Tb} {ss ss' : Ss} {ow ow' : Ow} {e a b c : Expr} {es : List Expr} {pos : Pos} {d d1 d2 : D} {ds : List D} {o : Out} {k : Nat}
theorem ex_call {x : Str} {n : Nat} {pre : List D → D → Prop} {p : Pos} (F : Fx X.prog X.w X.K X.mg X.base tb x k n pre) (hr : Room k X.A) (ha : Xs tb X (e :: es) ss ow ds) (hp : pre ds d) (hn : ds.length = n := by rfl) (hg : Gl X x := by rfl)
    (hdb : (x == ("__debug__" : Str)) = false := by decide) (he : starEach (e :: es) X.env = (false, eval e X.env) :: starEach es X.env := by rfl) (hpl : (backTo pos (starEach es X.env)).any (·.1) = false := by rfl) : Ex tb X (.Call (.Name x p) (e :: es) [] pos) ss ow d := by
  obtain ⟨f, fd, ps, h1, h2, h3, h4⟩ := F
  exact PE.imp (pe_call h4 hr hg h1 h2 h3 .nil pass0 ha hdb he hpl) fun σ H Q ⟨A, H0, po, S, q⟩ => ⟨A, H0, po, S, fun vs H1 m z => ⟨po ++ A, ds, d, (S.step m).domP, (S.step m).tbl, by rw [List.append_nil]; exact z, hn, hp, fun v H' m' z' => q v H' (m.trans m') z'⟩⟩
def SubS : Ss → Ss → Prop
  | [], [] => True
  | none :: r, _ :: t => SubS r t
  | some d :: r, some e :: t => d = e ∧ SubS r t
  | _, _ => False
theorem SubS.refl : ∀ l : Ss, SubS l l
  | [] => trivial
  | none :: r => SubS.refl r
  | some _ :: r => ⟨rfl, SubS.refl r⟩
theorem SubS.len : ∀ {l k : Ss}, SubS l k → l.length = k.length
  | [], [], _ => rfl
  | none :: r, _ :: t, h => by rw [List.length_cons, List.length_cons, SubS.len (l := r) (k := t) h]
  | some d :: r, some e :: t, h => by rw [List.length_cons, List.length_cons, SubS.len (l := r) (k := t) h.2]
theorem SubS.get : ∀ {l k : Ss} {i : Nat} {d : D}, SubS l k → l[i]? = some (some d) → k[i]? = some (some d)
  | [], [], _, _, _, e => e
  | none :: r, _ :: t, 0, d, h, e => by simp at e
  | none :: r, _ :: t, i + 1, d, h, e => by
    have q := SubS.get (l := r) (k := t) (i := i) (d := d) h (by simpa using e)
    simpa using q
  | some d' :: r, some e' :: t, 0, d, h, e => by
    have h1 : d' = e' := h.1
    subst h1
    simpa using e
  | some d' :: r, some e' :: t, i + 1, d, h, e => by
    have q := SubS.get (l := r) (k := t) (i := i) (d := d) h.2 (by simpa using e)
    simpa using q
theorem Stt.weak {K : PySem.W.Frag} {A po : List Addr} {H0 H : Hp} {σ : L2.St} (S : Stt K tb A H0 H σ ss ow po) (h : SubS ss' ss) : Stt K tb A H0 H σ ss' ow po :=
  ⟨S.dom, S.tbl, S.sm, S.new, by rw [h.len]; exact S.len, fun i d e => S.env i d (h.get e), S.own⟩
theorem sx_while {body : List Stmt} (W : Nat → Ss → Ow → Prop) (F : Ss → Ow → Prop) (hp : PassesOwn (model X.prog X.w) X.A X.env X.xe)
    (h : ∀ m ss ow, W m ss ow → ∃ k, Tx tb X c ss ow k ∧ (k = false → F ss ow) ∧ (k = true → ∃ m' ss' ow', m' < m ∧ W m' ss' ow' ∧ Bx tb X body ss ow (.nx ss' ow')))
    {m : Nat} (hW : W m ss ow) (hF : ∀ ss ow, F ss ow → SubS ss' ss ∧ ow = ow') : Sx tb X (.While c body [] pos) ss ow (.nx ss' ow') := by
  -- one reading of the test and one of the body, for all states
  have hc : PT X c (fun σ H Q => ∃ ss ow k, Tx tb X c ss ow k ∧ tTx X.K tb ss ow k σ H Q) := fun pins s σ H Q I ⟨ss, ow, k, q1, q2⟩ => q1 pins s σ H Q I q2
  have hb : PSs X body (fun Z σ H => ∃ ss ow o, Bx tb X body ss ow o ∧ tSx X.K tb ss ow o Z σ H) := fun pins s σ H Z I ⟨ss, ow, o, q1, q2⟩ => q1 pins s σ H Z I q2
  refine PS.imp (ps_while hp hc hb) fun Z σ H ⟨A, H0, po, S, q⟩ => ?_
  refine ⟨fun m σ H => ∃ ss ow po, W m ss ow ∧ Stt X.K tb A H0 H σ ss ow po, ⟨m, ss, ow, po, hW, S⟩, ?_⟩
  rintro m σ H ⟨ss, ow, po, hW, S⟩
  obtain ⟨k, t, f, g⟩ := h m ss ow hW
  cases k with
  | false =>
    have f := f rfl
    refine ⟨ss, ow, false, t, A, H0, po, S, fun H' mm => iteF ?_⟩
    obtain ⟨e1, e2⟩ := hF _ _ f
    subst e2
    exact q σ H' po ((S.step mm).weak e1)
  | true =>
    obtain ⟨m', ss1, ow1, hlt, hW1, hB⟩ := g rfl
    refine ⟨ss, ow, true, t, A, H0, po, S, fun H' mm => iteT ?_⟩
    exact ⟨fun σ' H' => ∃ po', Stt X.K tb A H0 H' σ' ss1 ow1 po', fun σ' H' ⟨po', S'⟩ => ⟨m', hlt, ss1, ow1, po', hW1, S'⟩, ss, ow, _, hB, A, H0, po, S.step mm, fun σ2 H2 po2 S2 => ⟨po2, S2⟩⟩
theorem Stt.rebase {K : PySem.W.Frag} {A po : List Addr} {H0 H : Hp} {σ : L2.St} (S : Stt K tb A H0 H σ ss ow po) : Stt K tb A (hid po H) H σ ss ow po := by
  refine ⟨fun a ha => ?_, S.tbl, ⟨fun b o e _ => (hid_iff.mp e).2, fun b o e => ⟨o, (hid_iff.mp e).2⟩, fun _ => S.tbl⟩, fun p hp => by simp [hid, hp], S.len, S.env, S.own⟩
  obtain ⟨o, e, n⟩ := S.dom a ha
  exact ⟨o, hid_iff.mpr ⟨fun z => S.apart z ha, S.sm.keep a o e n.1⟩, n⟩
theorem Stt.unbase {K : PySem.W.Frag} {A po po2 : List Addr} {H0 H H2 : Hp} {σ σ2 : L2.St} {ss2 : Ss} {ow2 : Ow} (S : Stt K tb A H0 H σ ss ow po) (S2 : Stt K tb A (hid po H) H2 σ2 ss2 ow2 po2) : Stt K tb A H0 H2 σ2 ss2 ow2 po2 := by
  have out : ∀ b o, H0 b = some o → b ∉ po := fun b o e z => by
    rw [S.new b z] at e
    cases e
  refine ⟨S.dom, S2.tbl, ⟨fun b o e n => S2.sm.keep b o (hid_iff.mpr ⟨out b o e, S.sm.keep b o e n⟩) n, fun b o e => ?_, fun t => S2.tbl⟩, fun p hp => ?_, S2.len, S2.env, S2.own⟩
  · obtain ⟨u, q⟩ := S.sm.dom b o e
    exact S2.sm.dom b u (hid_iff.mpr ⟨out b o e, q⟩)
  · have z := S2.new p hp
    by_cases hq : p ∈ po
    · exact S.new p hq
    · have z2 : H p = none := by simpa [hid, hq] using z
      exact S.sm.free z2
theorem Stt.seen {K : PySem.W.Frag} {A po po1 : List Addr} {H1 H : Hp} {σ : L2.St} (S : Stt K tb A (hid po1 H1) H σ ss ow po) : Le (hid (po1 ++ A) H1) (hid (po ++ A) H) := fun b o e n => by
  obtain ⟨e1, e2⟩ := hid_iff.mp e
  have h1 : b ∉ po1 := fun z => e1 (List.mem_append_left _ z)
  have h2 : b ∉ A := fun z => e1 (List.mem_append_right _ z)
  have h3 : hid po1 H1 b = some o := hid_iff.mpr ⟨h1, e2⟩
  refine hid_iff.mpr ⟨fun z => ?_, S.sm.keep b o h3 n⟩
  rcases List.mem_append.mp z with z | z
  · rw [S.new b z] at h3
    cases h3
  · exact h2 z
theorem sx_for (i : Nat) {x : Str} {p1 : Pos} {iter : Expr} {body : List Stmt} (W : Nat → Ss → Ow → Prop) (hp : PassesOwn (model X.prog X.w) X.A X.env X.xe) (hc : X.calm = true) (hN : X.N.Nodup) (hl : Ex tb X iter ss ow (.lst ds)) (h0 : W 0 ss ow)
    (h : ∀ j d ss ow, ds[j]? = some d → W j ss ow → ow.at i = false ∧ ∃ ss' ow', Bx tb X body (ss.set i (some d)) ow (.nx ss' ow') ∧ W (j + 1) ss' ow') (hF : ∀ ss ow, W ds.length ss ow → SubS ss' ss ∧ ow = ow')
    (hi : X.N[i]? = some x := by rfl) (hx : Loc X.env.scope x := by first | exact Or.inl rfl | exact Or.inr rfl) (hf : X.fn x = true ∨ X.env.scope.names.lookup x = some .local := by first | exact .inl rfl | exact .inr rfl)
    (hs : ∀ x, foldedSetIterable iter X.env x = pure x := by intro _; rfl) : Sx tb X (.For (.Name x p1) iter body [] pos) ss ow (.nx ss' ow') := by
  have hb : PSs X body (fun Z σ H => ∃ ss ow o, Bx tb X body ss ow o ∧ tSx X.K tb ss ow o Z σ H) := fun pins s σ H Z I ⟨ss, ow, o, q1, q2⟩ => q1 pins s σ H Z I q2
  refine PS.imp (ps_for hp hc (pi_list hl) (pg_name (i := i) hN hi hx hf) hb hs) fun Z σ H ⟨A, H0, po, S, q⟩ => ⟨A, H0, po, S, fun v H1 m z => ?_⟩
  cases z with
  | lst s r =>
    rename_i ra xs
    have S1 := S.step m
    refine ⟨ra, rfl, ⟨xs, sqL_le le_hid s⟩, for_list (K := X.K) (a := ra) (xs := xs) (D := Z) (g := gName i) (tb := fun Z σ H => ∃ ss ow o, Bx tb X body ss ow o ∧ tSx X.K tb ss ow o Z σ H) (fun j σ H => ∃ ss ow po', W j ss ow ∧ Stt X.K tb A (hid po H1) H σ ss ow po') ⟨ss, ow, po, h0, S1.rebase⟩ (fun j σ H _ ⟨ss, ow, po', _, S'⟩ => sqL_le le_hid (sqL_le S'.seen s)) ?_ ?_⟩
    · rintro j v σ2 H2 hj ⟨ss2, ow2, po2, w2, S2⟩
      obtain ⟨d, e1, e2⟩ := r.get' hj
      obtain ⟨ho, ss3, ow3, hB, w3⟩ := h j d ss2 ow2 e1 w2
      exact ⟨_, _, _, hB, A, hid po H1, po2, S2.set (e2.le S2.seen) ho, fun σ3 H3 po3 S3 => ⟨ss3, ow3, po3, w3, S3⟩⟩
    · rintro σ2 H2 ⟨ss2, ow2, po2, w2, S2⟩
      rw [r.length] at w2
      obtain ⟨e1, e2⟩ := hF _ _ w2
      subst e2
      exact q σ2 H2 po2 ((S1.unbase S2).weak e1)
abbrev Blk (X : Cx) (scope : Scope) (X' : Cx) : Prop := ∃ (s : Shared) (H : Hp) (C : Addr) (cl : List (Str × Addr)) (fp : List Addr), X' = X.blk s H scope (compEnvC scope cl C X.env) fp
def LcTurn (X : Cx) (tb : Option Tb) (scope : Scope) (elt : Expr) (ifs : List Expr) (ss : Ss) (j : Nat) (d : D) : Option D → Prop
  | some r => ∀ X', Blk X scope X' → PTs X' ifs (tTx X.K tb (ss.set j (some d)) .no true) ∧ PE X' elt (tEx X.K tb (ss.set j (some d)) .no r)
  | none => ∀ X', Blk X scope X' → PTs X' ifs (tTx X.K tb (ss.set j (some d)) .no false)
def lcT (X : Cx) (tb : Option Tb) (scope : Scope) (elt : Expr) (ifs : List Expr) (ss : Ss) (j : Nat) : TT := fun σ H Q => ∃ d o, LcTurn X tb scope elt ifs ss j d o ∧ tTx X.K tb (ss.set j (some d)) .no o.isSome σ H Q
def lcE (X : Cx) (tb : Option Tb) (scope : Scope) (elt : Expr) (ifs : List Expr) (ss : Ss) (j : Nat) : TE := fun σ H Q => ∃ d r, LcTurn X tb scope elt ifs ss j d (some r) ∧ tEx X.K tb (ss.set j (some d)) .no r σ H Q
section
variable {scope : Scope} {elt iter : Expr} {ifs : List Expr} {j : Nat}
theorem lcT_ok {X' : Cx} (hb : Blk X scope X') : PTs X' ifs (lcT X tb scope elt ifs ss j) := fun pins s σ H Q I ⟨d, o, t, q⟩ => by
  cases o with
  | none => exact t X' hb pins s σ H Q I q
  | some r => exact (t X' hb).1 pins s σ H Q I q
theorem lcE_ok {X' : Cx} (hb : Blk X scope X') : PE X' elt (lcE X tb scope elt ifs ss j) := fun pins s σ H Q I ⟨d, r, t, q⟩ => (t X' hb).2 pins s σ H Q I q
def LcP (K : PySem.W.Frag) (tb : Option Tb) (A : List Addr) (H1 : Hp) (D : Addr) (ds : List BS.D) (f : BS.D → Option BS.D) (i : Nat) (H : Hp) : Prop :=
  ∃ acc, H D = some (.lst acc) ∧ Dqs K (hid (D :: A) H) acc ((ds.take i).filterMap f) ∧ Sm tb H1 H ∧ TbOk tb H
theorem wipe_one (σ : L2.St) (j : Nat) : wipe σ [j] = σ.set j none := rfl
theorem take_snoc' {α : Type} : ∀ {l : List α} {i : Nat} {x : α}, l[i]? = some x → l.take (i + 1) = l.take i ++ [x]
  | [], i, x, h => by simp at h
  | a :: l, 0, x, h => by
    have e : a = x := Option.some.inj h
    subst e
    rfl
  | a :: l, i + 1, x, h => by
    have ih := take_snoc' (l := l) (i := i) (x := x) h
    show a :: l.take (i + 1) = a :: l.take i ++ [x]
    rw [ih]
    rfl
theorem lc_turn {A : List Addr} {H0 H1 : Hp} {σ : L2.St} {Dl : Addr} {f : D → Option D} {i : Nat} {d : D} {v : V} {H : Hp} (S : Stt X.K tb A H0 H1 σ ss .no []) (hD : H1 Dl = none) (hj : j < ss.length) (hlen : ds.length < 16777216) (hi : ds[i]? = some d) (hv : Dq X.K (hid A H1) v d)
    (ht : LcTurn X tb scope elt ifs ss j d (f d)) (p : LcP X.K tb A H1 Dl ds f i H) :
    gName j v (wipe σ [j]) H fun σ2 H2 => wipe σ2 [j] = wipe σ [j] ∧ lcT X tb scope elt ifs ss j σ2 H2 fun b H3 =>
      if b = true then lcE X tb scope elt ifs ss j σ2 H3 fun y H4 => ∃ acc, H4 Dl = some (.lst acc) ∧ acc.length < sizeLine ∧ LcP X.K tb A H1 Dl ds f (i + 1) (upd H4 Dl (.lst (acc ++ [y]))) else LcP X.K tb A H1 Dl ds f (i + 1) H3 := by
  obtain ⟨acc, h1, h2, h3, h4⟩ := p
  have S' : Stt X.K tb (Dl :: A) H H ((wipe σ [j]).set j (some v)) (ss.set j (some d)) .no [] := by
    have L : Le (hid A H1) (hid (Dl :: A) H) := fun b o e n => by
      obtain ⟨e1, e2⟩ := hid_iff.mp e
      have bD : b ≠ Dl := ne_of_none e2 hD
      exact hid_iff.mpr ⟨by simp [bD, e1], h3.keep b o e2 n⟩
    refine ⟨fun a ha => ?_, h4, .refl, (fun _ z => nomatch z), by rw [wipe_one, List.length_set, List.length_set, List.length_set]; exact S.len, fun k d' hk => ?_, rfl⟩
    · rcases List.mem_cons.mp ha with e | ha
      · subst e
        exact ⟨_, h1, noTbl_lst, fun _ z => nomatch z⟩
      · exact (S.dom.sm S.sm).sm h3 a ha
    · by_cases z : k = j
      · subst z
        rw [List.getElem?_set_self hj] at hk
        have e : d = d' := by simpa using hk
        subst e
        exact ⟨v, List.getElem?_set_self (by rw [wipe_one, List.length_set, S.len]; exact hj), hv.le L⟩
      · rw [set_ne z] at hk
        obtain ⟨u, e1, e2⟩ := S.env k d' hk
        exact ⟨u, by rw [set_ne z, wipe_one, set_ne z]; exact e1, e2.le L⟩
  refine ⟨by simp [wipe_one], d, f d, ht, Dl :: A, H, [], S', fun H3 m3 => ?_⟩
  have k3 := m3.keep _ _ h1 noTbl_lst
  cases q : f d with
  | none =>
    refine iteF ?_
    refine ⟨acc, k3, ?_, h3.trans m3, m3.tb h4⟩
    rw [take_snoc' hi, List.filterMap_append]
    simp only [List.filterMap_cons, q, List.filterMap_nil, List.append_nil]
    exact h2.le m3.le
  | some r =>
    refine iteT ?_
    rw [q] at ht
    refine ⟨d, r, ht, Dl :: A, H, [], S'.step m3, fun y H4 m4 z4 => ?_⟩
    have k4 := m4.keep _ _ k3 noTbl_lst
    have hl : acc.length ≤ ds.length := by
      rw [h2.length]
      exact Nat.le_trans (List.length_filterMap_le _ _) (by rw [List.length_take]; exact Nat.min_le_right _ _)
    refine ⟨acc, k4, by rw [sizeLine_eq]; omega, acc ++ [y], upd_same, ?_, ⟨fun b o e n => ?_, fun b o e => ?_, fun t => ?_⟩, (m4.tb (m3.tb h4)).write k4 noTbl_lst fun _ z => nomatch z⟩
    · rw [take_snoc' hi, List.filterMap_append, hid_upd (List.mem_cons_self ..)]
      simp only [List.filterMap_cons, q, List.filterMap_nil]
      exact ((h2.le m3.le).le m4.le).append (.one z4)
    · rw [upd_ne (ne_of_none e hD)]
      exact ((h3.trans m3).trans m4).keep b o e n
    · rw [upd_ne (ne_of_none e hD)]
      exact ((h3.trans m3).trans m4).dom b o e
    · exact (m4.tb (m3.tb h4)).write k4 noTbl_lst fun _ z => nomatch z
theorem lc_start {A : List Addr} {H0 H1 : Hp} {σ : L2.St} {Dl : Addr} {f : D → Option D} (S : Stt X.K tb A H0 H1 σ ss .no []) (hD : H1 Dl = none) : LcP X.K tb A H1 Dl ds f 0 (upd H1 Dl (.lst [])) :=
  ⟨[], upd_same, .nil, .laid hD, (Sm.laid hD).tb S.tbl⟩
theorem lc_end {A : List Addr} {H0 H1 H : Hp} {σ : L2.St} {Dl : Addr} {f : D → Option D} (S : Stt X.K tb A H0 H1 σ ss .no []) (hD : H1 Dl = none) (p : LcP X.K tb A H1 Dl ds f ds.length H) : Sm tb H1 H ∧ Dq X.K (hid A H) (.ref Dl) (.lst (ds.filterMap f)) := by
  obtain ⟨acc, h1, h2, h3, h4⟩ := p
  rw [List.take_length] at h2
  have n : Dl ∉ A := (S.dom.sm S.sm).new hD
  exact ⟨h3, .lst (SqL.of (hid_iff.mpr ⟨n, h1⟩)) (h2.le (le_sub fun a h => List.mem_cons_of_mem _ h))⟩
theorem tlc_list {σ : L2.St} {H : Hp} {Q : VK} {f : D → Option D} (hj : j < ss.length) (hlen : ds.length < 16777216) (ht : ∀ d ∈ ds, LcTurn X tb scope elt ifs ss j d (f d)) (h : tEx X.K tb ss .no (.lst (ds.filterMap f)) σ H Q) :
    tLc (iList X.K (tEx X.K tb ss .no (.lst ds))) (gName j) (lcT X tb scope elt ifs ss j) (lcE X tb scope elt ifs ss j) [j] σ H Q := by
  obtain ⟨A, H0, po, S, q⟩ := h
  obtain rfl := S.po_no
  refine ⟨A, H0, [], S, fun v H1 m z => ?_⟩
  cases z with
  | lst s r =>
    rename_i ra xs
    have S1 := S.step m
    refine ⟨ra, rfl, ⟨xs, sqL_le le_hid s⟩, fun Dl hD => ?_⟩
    refine lc_list (K := X.K) (a := ra) (xs := xs) (LcP X.K tb A H1 Dl ds f) (lc_start S1 hD) (fun i H2 _ ⟨_, _, _, h3, _⟩ => sqL_le le_hid (sqL_le h3.le s)) (fun i v H2 hv p => ?_) fun H2 p => ?_
    · obtain ⟨d, e1, e2⟩ := r.get' hv
      exact lc_turn S1 hD hj hlen e1 e2 (ht d (List.mem_of_getElem? e1)) p
    · rw [r.length] at p
      obtain ⟨m2, z2⟩ := lc_end S1 hD p
      exact q _ H2 (m.trans m2) z2
theorem tlc_tup {σ : L2.St} {H : Hp} {Q : VK} {f : D → Option D} (hj : j < ss.length) (hlen : ds.length < 16777216) (ht : ∀ d ∈ ds, LcTurn X tb scope elt ifs ss j d (f d)) (h : tEx X.K tb ss .no (.lst (ds.filterMap f)) σ H Q) :
    tLc (iTup X.K (tEx X.K tb ss .no (.tup ds))) (gName j) (lcT X tb scope elt ifs ss j) (lcE X tb scope elt ifs ss j) [j] σ H Q := by
  obtain ⟨A, H0, po, S, q⟩ := h
  obtain rfl := S.po_no
  refine ⟨A, H0, [], S, fun v H1 m z => ?_⟩
  cases z with
  | tup s r =>
    rename_i ra xs
    have S1 := S.step m
    refine ⟨ra, rfl, ⟨xs, sqT_le le_hid s⟩, fun Dl hD => ?_⟩
    refine lc_tup (K := X.K) (a := ra) (xs := xs) (LcP X.K tb A H1 Dl ds f) (lc_start S1 hD) (fun i H2 _ ⟨_, _, _, h3, _⟩ => sqT_le le_hid (sqT_le h3.le s)) (fun i v H2 hv p => ?_) fun H2 p => ?_
    · obtain ⟨d, e1, e2⟩ := r.get' hv
      exact lc_turn S1 hD hj hlen e1 e2 (ht d (List.mem_of_getElem? e1)) p
    · rw [r.length] at p
      obtain ⟨m2, z2⟩ := lc_end S1 hD p
      exact q _ H2 (m.trans m2) z2
variable {x : Str} {p1 : Pos}
theorem ex_lcT (hc : X.calm = true) (hN : X.N.Nodup) (hl : Ex tb X iter ss .no (.tup ds)) (ok : BlkOk X.N X.env.scope scope [(x, j)]) (f : D → Option D) (hj : j < ss.length) (hlen : ds.length < 16777216) (ht : ∀ d ∈ ds, LcTurn X tb scope elt ifs ss j d (f d))
    (hi : X.N[j]? = some x := by rfl) (hx : ∀ (s : Shared) (H : Hp) (C : Addr) (cl : List (Str × Addr)) (fp : List Addr), (X.blk s H scope (compEnvC scope cl C X.env) fp).env.scope.names.lookup x = some .local := by intros; rfl) (hs : ∀ x, foldedSetIterable iter X.env x = pure x := by intro _; rfl) :
    Ex tb X (.ListComp elt [⟨.Name x p1, iter, ifs, 0⟩] scope pos) ss .no (.lst (ds.filterMap f)) :=
  PE.imp (pe_lc hc hN (pi_tup hl) ok (fun s H C cl fp => pg_name (i := j) hN hi (.inl (hx s H C cl fp)) (.inr (hx s H C cl fp))) (fun s H C cl fp => lcT_ok ⟨s, H, C, cl, fp, rfl⟩) (fun s H C cl fp => lcE_ok ⟨s, H, C, cl, fp, rfl⟩) hs) fun σ H Q h => tlc_tup hj hlen ht h
end
end
end BS
set_option Elab.async false
set_option linter.all false
set_option maxRecDepth 100000
set_option maxHeartbeats 4000000
namespace BS
open PySem PySem.Spec PyProof.Rows L2
mutual
inductive Wk : D → D → Prop
  | refl (d : D) : Wk d d
  | key (a b : Int) : Wk (.key a b) (.tup [.int a, .int b])
  | lst {l k : List D} : Wks l k → Wk (.lst l) (.lst k)
inductive Wks : List D → List D → Prop
  | nil : Wks [] []
  | cons {a b : D} {l k : List D} : Wk a b → Wks l k → Wks (a :: l) (b :: k)
end
section
variable {K : PySem.W.Frag} {G : Hp}
mutual
theorem Dq.wk : ∀ {v : V} {d d' : D}, Wk d d' → Dq K G v d → Dq K G v d'
  | _, _, _, .refl _, h => h
  | _, _, _, .key _ _, h => h.pair
  | _, _, _, .lst w, .lst s h => .lst s (Dqs.wk w h)
theorem Dqs.wk : ∀ {vs : List V} {l k : List D}, Wks l k → Dqs K G vs l → Dqs K G vs k
  | _, _, _, .nil, .nil => .nil
  | _, _, _, .cons w t, .cons h r => .cons (Dq.wk w h) (Dqs.wk t r)
end
theorem Wks.map {α : Type} {f g : α → D} (h : ∀ x, Wk (f x) (g x)) : ∀ l : List α, Wks (l.map f) (l.map g)
  | [] => .nil
  | x :: l => .cons (h x) (Wks.map h l)
end
section
variable {X : Cx} {tb : Option Tb} {ss ss' : Ss} {ow ow' : Ow} {e a b c : Expr} {es : List Expr} {pos : Pos} {d d1 d2 : D} {ds : List D} {o : Out} {k : Nat}
theorem Ex.wk (h : Ex tb X e ss ow d1) (w : Wk d1 d) : Ex tb X e ss ow d := PE.imp h fun σ H Q ⟨A, H0, po, S, q⟩ => ⟨A, H0, po, S, fun v H' m z => q v H' m (z.wk w)⟩
theorem ex_lenL {p1 : Pos} (hm : X.mg "len" = none) (h : Ex tb X e ss ow (.lst ds)) (hg : Gl X "len" := by rfl) (hs : starEach [e] X.env = [(false, eval e X.env)] := by rfl) : Ex tb X (.Call (.Name "len" p1) [e] [] pos) ss ow (.int ds.length) :=
  PE.imp (pe_callB call_len_seq hg hm PySem.boot_len (xs_one h hs) (he := hs)) fun σ H Q ⟨A, H0, po, S, k⟩ => ⟨A, H0, po, S, fun vs H' m z => by
    cases z with
    | cons h1 h2 =>
      cases h2
      cases h1 with
      | lst s r => exact ⟨_, _, rfl, .inl (sqL_le le_hid s), by rw [r.length]; exact k _ H' m (.int _)⟩⟩
theorem ex_lenT {p1 : Pos} (hm : X.mg "len" = none) (h : Ex tb X e ss ow (.tup ds)) (hg : Gl X "len" := by rfl) (hs : starEach [e] X.env = [(false, eval e X.env)] := by rfl) : Ex tb X (.Call (.Name "len" p1) [e] [] pos) ss ow (.int ds.length) :=
  PE.imp (pe_callB call_len_seq hg hm PySem.boot_len (xs_one h hs) (he := hs)) fun σ H Q ⟨A, H0, po, S, k⟩ => ⟨A, H0, po, S, fun vs H' m z => by
    cases z with
    | cons h1 h2 =>
      cases h2
      cases h1 with
      | tup s r => exact ⟨_, _, rfl, .inr (sqT_le le_hid s), by rw [r.length]; exact k _ H' m (.int _)⟩⟩
open PySem.SeqAt PySem.AutoSeq1 PySem.MeetsSeq PySem.MeetsSeq2 PySem.MeetsSeq3 in
theorem extend_tup (l b : Addr) (xs ys : Array Value) (n m : Nat) (dd : Option Addr) (sl : Array (Option Value)) (h0 : ¬(!xs.isEmpty && Builtin.List.listTooLong (xs.size + ys.size)) = true) (h1 : xs.size ≤ sizeLine) (h2 : xs.size + ys.size ≤ sizeLine + 1) :
    Meets (Builtin.«list.extend» ⟨[.ref l, .ref b], []⟩) (fun _ R s => s.heap.get? l = some { cls := .type "list", dict := none, data := .seq xs n, slots := #[] } ∧ s.heap.get? b = some { cls := .type "tuple", dict := dd, data := .seq ys m, slots := sl } ∧
      R (.ok (.ret Value.none)) { s with heap := s.heap.update l (Obj.mapSeq fun x => x ++ ys), toks := s.toks }) :=
  .of_wp fun prog w A R s h => by
    obtain ⟨hp, g, d, tk, os⟩ := s
    obtain ⟨hl, hb, h⟩ := h
    have f1 := AutoSeq1.sub_tuple_tuple
    have f2 := AutoSeq1.sub_list_list
    have f3 := AutoSeq1.sub_tuple_list
    have f4 := AutoSeq1.sub_list_tuple
    have z : (xs ++ ys).size ≤ sizeLine + 1 := by
      rw [Array.size_append]
      exact h2
    wp_walk using (wpAny_updateSeq hl rfl (hz := h1) (_hz' := z)), wpAny_loadPart' hl, wpAny_loadPart' hb
    exact ⟨_, rfl, h⟩
def rExtT (K : PySem.W.Frag) : V → List V → Hp → VK → Prop := fun x vs H Q => ∃ l b xs zs, x = .ref l ∧ vs = [.ref b] ∧ H l = some (.lst xs) ∧ SqT K H b zs ∧ xs.length + zs.length ≤ sizeLine ∧ Q .non (upd H l (.lst (xs ++ zs)))
theorem mt_extT : MtM X "list.extend" (rExtT X.K) := by
  intro pins s σ H x vs v us Q I rx rv h
  obtain ⟨l, b, xs, zs, rfl, rfl, hH, hB, hz, q⟩ := h
  cases rx
  obtain ⟨u, rfl, ru⟩ := rv.one
  cases ru
  obtain ⟨z, its, n, r, hl, e⟩ := I.lstM hH
  obtain ⟨its2, r2, ⟨⟨cls, dd, data, sl⟩, e2, hc, n2, hd⟩, z2⟩ := I.tuple hB
  simp only at hc hd
  subst hc hd
  have hl2 := r2.length
  have hsz : its.toArray.size + its2.toArray.size ≤ sizeLine := by rw [List.size_toArray, List.size_toArray]; omega
  have hlong : ¬ (!its.toArray.isEmpty && Builtin.List.listTooLong (its.toArray.size + its2.toArray.size)) = true := by
    rw [notLongL hsz, Bool.and_false]
    exact Bool.false_ne_true
  refine call_meets F.slot_list_extend ⟨_, e, rfl⟩ F.entry_list_extend (F.args_list_extend_2 _ _) (extend_tup l b its.toArray its2.toArray n n2 dd sl hlong (by rw [List.size_toArray]; omega) (by omega)) ⟨e, e2, ?_⟩
  refine ⟨.non, _, I.lset (its' := its ++ its2) hH e (by simp) (r.append r2) ?_, rfl, q⟩
  rw [List.length_append]
  omega
theorem sx_extend (i : Nat) {x : Str} {p1 p2 p3 : Pos} {es' : List D} (h : Ex tb X e ss (.lst i ds) (.tup es')) (hl : ds.length + es'.length ≤ 16777216) (hN : X.N[i]? = some x := by rfl) (hv : Vis X.env.scope x := by first | exact Or.inl rfl | exact Or.inr (Or.inl rfl) | exact Or.inr (Or.inr rfl)) (hd : (x == ("__debug__" : Str)) = false := by decide)
    (hcd : (x == ("__classdict__" : Str)) = false := by decide) (hb : attributeBase (.Name x p1) "extend" X.env (eval (.Name x p1) X.env) = eval (.Name x p1) X.env := by rfl) (hline : (p2.endLine == p3.line) = true := by rfl) (hst : starEach [e] X.env = [(false, eval e X.env)] := by rfl)
    (hfew : ((backTo p3 (starEach [e] X.env)).all (fun x => !x.1) && (backToKw p3 (keywordEach [] X.env)).all (fun x => x.1.isSome) && decide (([e] : List Expr).length + ([] : List Keyword).length + (if ([] : List Keyword).isEmpty then 0 else 1) < 30)) = true := by rfl)
    (hsw : swapsWith (.Call (.Attribute (.Name x p1) "extend" p2) [e] [] p3) none pos.line X.env = pure false := by rfl) :
    Sx tb X (.Expr (.Call (.Attribute (.Name x p1) "extend" p2) [e] [] p3) pos) ss (.lst i ds) (.nx ss (.lst i (ds ++ es'))) :=
  PS.imp (ps_expr (pe_bm PySem.F.plainAttrs_list PySem.F.slot_list_extend PySem.F.type_list_extend mt_extT (pe_var hN hv hd hcd) (xs_one h hst) hb hfew hline hst rfl) hsw) fun Z σ H ⟨A, H0, po, S, q⟩ => by
    obtain ⟨p, xs, h1, h2, h3, h4⟩ := S.own
    refine ⟨.ref p, h2, .inl ⟨rfl, _, SqL.of h3⟩, A, H0, po, S, fun vs H' m z => ?_⟩
    have h3' := m.keep _ _ h3 noTbl_lst
    cases z with
    | cons z1 z2 =>
      cases z2
      cases z1 with
      | tup s r => exact ⟨p, _, xs, _, rfl, rfl, h3', sqT_le le_hid s, by rw [h4.length, r.length, sizeLine_eq]; exact hl, q _ _ po ((S.step m).grow h1 h2 h3' ((h4.le m.le).append r))⟩
end
end BS
set_option Elab.async false
set_option linter.all false
set_option maxRecDepth 100000
set_option maxHeartbeats 4000000
namespace BS
open PySem PySem.Spec PyProof.Rows L2
def RcO (A : Around) (s : Shared) (op : CmpOp) (v u : Value) (c : Bool) : Prop := ∀ (prog : Program) (w : World) (E : Value → Shared → Prop) (Q : Value → Shared → Prop), Q (.bool c) s → wpAny (model prog w) A (richCompare op v u) Q E s
def lexO : List (Bool × Bool) → Bool
  | [] => false
  | (e, c) :: r => if e = true then lexO r else c
inductive Cmps (A : Around) (s : Shared) (op : CmpOp) : List Value → List Value → List (Bool × Bool) → Prop
  | nil : Cmps A s op [] [] []
  | cons {v u : Value} {vs us : List Value} {e c : Bool} {r : List (Bool × Bool)} : SeqAt.EqAt A s v u e → (e = false → RcO A s op v u c) → Cmps A s op vs us r → Cmps A s op (v :: vs) (u :: us) ((e, c) :: r)
theorem Cmps.len {A : Around} {s : Shared} {op : CmpOp} : ∀ {vs us : List Value} {r : List (Bool × Bool)}, Cmps A s op vs us r → vs.length = us.length
  | _, _, _, .nil => rfl
  | _, _, _, .cons _ _ t => by rw [List.length_cons, List.length_cons, Cmps.len t]
section
open PySem.SeqAt
open PySem.AutoSeq1 (wpAny_loadPart')
open PySem.MeetsSeq PySem.MeetsSeq2 PySem.MeetsSeq3
theorem tup_lt (l b : Addr) (xs ys : Array Value) (n m : Nat) (dd dd2 : Option Addr) (sl sl2 : Array (Option Value)) (cs : List (Bool × Bool)) :
    Meets (Builtin.«tuple.__lt__» ⟨[.ref l, .ref b], []⟩) (fun A R s => s.heap.get? l = some { cls := .type "tuple", dict := dd, data := .seq xs n, slots := sl } ∧ s.heap.get? b = some { cls := .type "tuple", dict := dd2, data := .seq ys m, slots := sl2 } ∧
      Cmps A.in1 s .Lt xs.toList ys.toList cs ∧ R (.ok (.ret (.bool (lexO cs)))) s) :=
  .of_wp fun prog w A R s h => by
    obtain ⟨hp, g, d, tk, os⟩ := s
    obtain ⟨hl, hb, hc, h⟩ := h
    have f2 := AutoSeq1.sub_tuple_tuple
    have z1 := hc.len
    simp only [Array.length_toList] at z1
    wp_walk using wpAny_loadPart' hl, wpAny_loadPart' hb, wpAny_forIn_list _ (fun rest b s' => b.1 = none ∧ s' = ⟨hp, g, d, tk, os⟩ ∧ ∃ (vs ws : List Value) (r : List (Bool × Bool)), rest = vs.zip ws ∧ Cmps A.in1 ⟨hp, g, d, tk, os⟩ .Lt vs ws r ∧
      R (.ok (.ret (.bool (lexO r)))) ⟨hp, g, d, tk, os⟩) _
    case turn =>
      rintro ⟨y, x⟩ rest b s' ⟨hb', rfl, vs, ws, r, hz, hcs, hR⟩
      cases hcs with
      | nil => rw [List.zip_nil_left] at hz; cases hz
      | cons he hk ht =>
        rename_i e c r'
        rw [List.zip_cons_cons] at hz
        injection hz with hyx hrest
        injection hyx with hy hx
        subst hy hx
        refine wpAny_bind (he prog w _ _ ?_)
        cases e with
        | true =>
          have hR' : R (.ok (.ret (.bool (lexO r')))) ⟨hp, g, d, tk, os⟩ := hR
          wp_walk
          exact ⟨rfl, rfl, _, _, _, hrest, ht, hR'⟩
        | false =>
          have hri := hk rfl prog w
          have hR' : R (.ok (.ret (.bool c))) ⟨hp, g, d, tk, os⟩ := hR
          wp_walk using hri
          exact ⟨_, rfl, by simpa using hR'⟩
    case fin =>
      rintro ⟨b1, b2⟩ s' ⟨hb', rfl, vs, ws, r, hz, hcs, hR⟩
      simp only at hb'
      subst hb'
      have hv : lexO r = decide (xs.size < ys.size) := by
        cases hcs with
        | nil => exact (decide_eq_false (by omega)).symm
        | cons he hk ht =>
          rw [List.zip_cons_cons] at hz
          cases hz
      rw [hv] at hR
      wp_walk
      exact ⟨_, rfl, by simpa [Builtin.Tuple.tupleCompareSizes] using hR⟩
    case h => exact ⟨rfl, rfl, xs.toList, ys.toList, cs, rfl, hc, h⟩
theorem tup_gt (l b : Addr) (xs ys : Array Value) (n m : Nat) (dd dd2 : Option Addr) (sl sl2 : Array (Option Value)) (cs : List (Bool × Bool)) :
    Meets (Builtin.«tuple.__gt__» ⟨[.ref l, .ref b], []⟩) (fun A R s => s.heap.get? l = some { cls := .type "tuple", dict := dd, data := .seq xs n, slots := sl } ∧ s.heap.get? b = some { cls := .type "tuple", dict := dd2, data := .seq ys m, slots := sl2 } ∧
      Cmps A.in1 s .Gt xs.toList ys.toList cs ∧ R (.ok (.ret (.bool (lexO cs)))) s) :=
  .of_wp fun prog w A R s h => by
    obtain ⟨hp, g, d, tk, os⟩ := s
    obtain ⟨hl, hb, hc, h⟩ := h
    have f2 := AutoSeq1.sub_tuple_tuple
    have z1 := hc.len
    simp only [Array.length_toList] at z1
    wp_walk using wpAny_loadPart' hl, wpAny_loadPart' hb, wpAny_forIn_list _ (fun rest b s' => b.1 = none ∧ s' = ⟨hp, g, d, tk, os⟩ ∧ ∃ (vs ws : List Value) (r : List (Bool × Bool)), rest = vs.zip ws ∧ Cmps A.in1 ⟨hp, g, d, tk, os⟩ .Gt vs ws r ∧
      R (.ok (.ret (.bool (lexO r)))) ⟨hp, g, d, tk, os⟩) _
    case turn =>
      rintro ⟨y, x⟩ rest b s' ⟨hb', rfl, vs, ws, r, hz, hcs, hR⟩
      cases hcs with
      | nil => rw [List.zip_nil_left] at hz; cases hz
      | cons he hk ht =>
        rename_i e c r'
        rw [List.zip_cons_cons] at hz
        injection hz with hyx hrest
        injection hyx with hy hx
        subst hy hx
        refine wpAny_bind (he prog w _ _ ?_)
        cases e with
        | true =>
          have hR' : R (.ok (.ret (.bool (lexO r')))) ⟨hp, g, d, tk, os⟩ := hR
          wp_walk
          exact ⟨rfl, rfl, _, _, _, hrest, ht, hR'⟩
        | false =>
          have hri := hk rfl prog w
          have hR' : R (.ok (.ret (.bool c))) ⟨hp, g, d, tk, os⟩ := hR
          wp_walk using hri
          exact ⟨_, rfl, by simpa using hR'⟩
    case fin =>
      rintro ⟨b1, b2⟩ s' ⟨hb', rfl, vs, ws, r, hz, hcs, hR⟩
      simp only at hb'
      subst hb'
      have hv : lexO r = decide (xs.size > ys.size) := by
        cases hcs with
        | nil => exact (decide_eq_false (by omega)).symm
        | cons he hk ht =>
          rw [List.zip_cons_cons] at hz
          cases hz
      rw [hv] at hR
      wp_walk
      exact ⟨_, rfl, by simpa [Builtin.Tuple.tupleCompareSizes] using hR⟩
    case h => exact ⟨rfl, rfl, xs.toList, ys.toList, cs, rfl, hc, h⟩
end
section
variable {A : Around} {s : Shared} {l b : Addr} {xs ys : Array Value} {cs : List (Bool × Bool)}
theorem rcO_lt (hl : IsTup s.heap l xs) (hb : IsTup s.heap b ys) (hu : A.units < cLine) (hc : Cmps A.in1 s .Lt xs.toList ys.toList cs) : RcO A s .Lt (.ref l) (.ref b) (lexO cs) := fun prog w E Q h => by
  obtain ⟨⟨cls, dd, data, sl⟩, ho, hc1, n, hd⟩ := id hl
  obtain ⟨⟨cls2, dd2, data2, sl2⟩, ho2, hc2, n2, hd2⟩ := id hb
  simp only at hc1 hd hc2 hd2
  subst hc1 hd hc2 hd2
  exact richCompare_meets_room (op := .Lt) ⟨_, ho, rfl⟩ ⟨_, ho2, rfl⟩ PySem.F.slot_tuple_lt PySem.F.entry_tuple_lt (PySem.F.args_tuple_lt_2 _ _) (tup_lt l b xs ys n n2 dd dd2 sl sl2 cs)
    ⟨ho, ho2, hc, show Value.bool (lexO cs) ≠ Value.notImplemented ∧ Q (.bool (lexO cs)) s from ⟨(fun x => nomatch x), h⟩⟩ hu
theorem rcO_gt (hl : IsTup s.heap l xs) (hb : IsTup s.heap b ys) (hu : A.units < cLine) (hc : Cmps A.in1 s .Gt xs.toList ys.toList cs) : RcO A s .Gt (.ref l) (.ref b) (lexO cs) := fun prog w E Q h => by
  obtain ⟨⟨cls, dd, data, sl⟩, ho, hc1, n, hd⟩ := id hl
  obtain ⟨⟨cls2, dd2, data2, sl2⟩, ho2, hc2, n2, hd2⟩ := id hb
  simp only at hc1 hd hc2 hd2
  subst hc1 hd hc2 hd2
  exact richCompare_meets_room (op := .Gt) ⟨_, ho, rfl⟩ ⟨_, ho2, rfl⟩ PySem.F.slot_tuple_gt PySem.F.entry_tuple_gt (PySem.F.args_tuple_gt_2 _ _) (tup_gt l b xs ys n n2 dd dd2 sl sl2 cs)
    ⟨ho, ho2, hc, show Value.bool (lexO cs) ≠ Value.notImplemented ∧ Q (.bool (lexO cs)) s from ⟨(fun x => nomatch x), h⟩⟩ hu
theorem rcO_int_lt (a : Int) (t : Tok) (c : Int) (u : Tok) : RcO A s .Lt (.int a t) (.int c u) (decide (a < c)) := fun prog w E Q h => (PyProof.Rows.lt_int h : wpAny (model prog w) A (compareOp .Lt (.int a t) (.int c u)) Q E s)
theorem rcO_int_gt (a : Int) (t : Tok) (c : Int) (u : Tok) : RcO A s .Gt (.int a t) (.int c u) (decide (c < a)) := fun prog w E Q h => (PyProof.Rows.gt_int h : wpAny (model prog w) A (compareOp .Gt (.int a t) (.int c u)) Q E s)
theorem eqAt_pair {x1 y1 x2 y2 : Int} {t1 t2 t3 t4 : Tok} (hl : IsTup s.heap l #[.int x1 t1, .int y1 t2]) (hb : IsTup s.heap b #[.int x2 t3, .int y2 t4]) (hu : A.units < cLine) : SeqAt.EqAt A s (.ref l) (.ref b) (decide (x1 = x2) && decide (y1 = y2)) := by
  by_cases hne : l = b
  · subst hne
    obtain ⟨o, e1, c1, n1, d1⟩ := hl
    obtain ⟨o', e2, c2, n2, d2⟩ := hb
    rw [e1] at e2
    cases e2
    rw [d1] at d2
    have q : #[Value.int x1 t1, Value.int y1 t2] = #[Value.int x2 t3, Value.int y2 t4] := by injection d2
    have q2 : [Value.int x1 t1, Value.int y1 t2] = [Value.int x2 t3, Value.int y2 t4] := by simpa using q
    injection q2 with q3 q4
    injection q4 with q5 _
    injection q3 with q6 _
    injection q5 with q7 _
    subst q6 q7
    simp only [decide_true, Bool.and_self]
    exact SeqAt.EqAt.same _
  · have h := SeqAt.RcAt.tuples (A := A) (e := fun j => if j = 0 then (x1 == x2) else (y1 == y2)) hl hb hu (fun j h1 h2 => ?_)
    · have e : ((List.range (min (#[Value.int x1 t1, Value.int y1 t2] : Array Value).size (#[Value.int x2 t3, Value.int y2 t4] : Array Value).size)).all (fun j => if j = 0 then (x1 == x2) else (y1 == y2)) && (#[Value.int x1 t1, Value.int y1 t2] : Array Value).size == (#[Value.int x2 t3, Value.int y2 t4] : Array Value).size) = (decide (x1 = x2) && decide (y1 = y2)) := by
        show ((List.range 2).all _ && true) = _
        simp [List.range, List.range.loop]
        rfl
      rw [e] at h
      exact .of_refs hne h
    · match j, h1, h2 with
      | 0, _, _ => exact .int_int x1 t1 x2 t3
      | 1, _, _ => exact .int_int y1 t2 y2 t4
      | j + 2, h1, _ => exact absurd h1 (by simp)
theorem rcO_pair_gt {x1 y1 x2 y2 : Int} {t1 t2 t3 t4 : Tok} (hl : IsTup s.heap l #[.int x1 t1, .int y1 t2]) (hb : IsTup s.heap b #[.int x2 t3, .int y2 t4]) (hu : A.units < cLine) :
    RcO A s .Gt (.ref l) (.ref b) (decide (x2 < x1 ∨ (x2 = x1 ∧ y2 < y1))) := by
  have h := rcO_gt hl hb hu (.cons (.int_int x1 t1 x2 t3) (fun _ => rcO_int_gt x1 t1 x2 t3) (.cons (.int_int y1 t2 y2 t4) (fun _ => rcO_int_gt y1 t2 y2 t4) .nil))
  have e : lexO [(x1 == x2, decide (x2 < x1)), (y1 == y2, decide (y2 < y1))] = decide (x2 < x1 ∨ (x2 = x1 ∧ y2 < y1)) := by
    by_cases h1 : x1 = x2
    · subst h1
      by_cases h2 : y1 = y2
      · subst h2
        simp [lexO]
      · simp [lexO, h2]
    · have : (x1 == x2) = false := by simpa using h1
      have h2 : x2 ≠ x1 := fun z => h1 z.symm
      simp [lexO, this, h2]
  rw [e] at h
  exact h
theorem rcO_pair_lt {x1 y1 x2 y2 : Int} {t1 t2 t3 t4 : Tok} (hl : IsTup s.heap l #[.int x1 t1, .int y1 t2]) (hb : IsTup s.heap b #[.int x2 t3, .int y2 t4]) (hu : A.units < cLine) :
    RcO A s .Lt (.ref l) (.ref b) (decide (x1 < x2 ∨ (x1 = x2 ∧ y1 < y2))) := by
  have h := rcO_lt hl hb hu (.cons (.int_int x1 t1 x2 t3) (fun _ => rcO_int_lt x1 t1 x2 t3) (.cons (.int_int y1 t2 y2 t4) (fun _ => rcO_int_lt y1 t2 y2 t4) .nil))
  have e : lexO [(x1 == x2, decide (x1 < x2)), (y1 == y2, decide (y1 < y2))] = decide (x1 < x2 ∨ (x1 = x2 ∧ y1 < y2)) := by
    by_cases h1 : x1 = x2
    · subst h1
      by_cases h2 : y1 = y2
      · subst h2
        simp [lexO]
      · simp [lexO, h2]
    · have : (x1 == x2) = false := by simpa using h1
      simp [lexO, this, h1]
  rw [e] at h
  exact h
end
section
variable {prog : Program} {w : World} {A : Around} {E : Value → Shared → Prop}
abbrev Kept (h h' : Heap) : Prop := ∀ b o, h.get? b = some o → h'.get? b = some o
theorem maxLoop {R : Result → Shared → Prop} {I S l : Addr} {vs : List Value} {h0 : Heap} (gt : Nat → Nat → Bool) (hh : A.handled = none) (hlI : l ≠ I) (hSI : S ≠ I) (hSl : S ≠ l) (nI : h0.get? I = none) (nS : h0.get? S = none)
    (cmp : ∀ (s : Shared) (i j : Nat) (vi vj : Value), Kept h0 s.heap → vs[i]? = some vi → vs[j]? = some vj → RcO A.in1 s .Gt vi vj (gt i j)) :
    ∀ (k j : Nat) (s : Shared) (vb : Value) (c : Nat), vs.length - (j + 1) = k → j + 1 ≤ vs.length → s.heap.IsListIter I l (j + 1) → s.heap.IsList l vs.toArray → vs[argBest gt j]? = some vb →
      s.heap.get? S = some (seqObj "list" #[vb, vb] c) → Kept h0 s.heap → (∀ v h' tk, vs[argBest gt (vs.length - 1)]? = some v → Kept h0 h' → R (.ok (.ret v)) { s with heap := h', toks := tk }) →
      codeAny (model prog w) A (.builtin "max.loop" ⟨[.ref I, .none, .ref S], []⟩) R s := by
  have nm : (toString "max" ++ toString ".loop" : String) = "max.loop" := by decide
  have W := Walks.list (prog := prog) (w := w) (A := A.in1) hh I l hlI vs.toArray
  have size : vs.toArray.size = vs.length := List.size_toArray ..
  have upS : ∀ {h1 h2 : Heap}, Kept h0 h1 → Heap.SameBut S h1 h2 → Kept h0 h2 := fun k sb b o e => (sb.2 b (fun z => by rw [z, nS] at e; cases e)).trans (k b o e)
  have upI : ∀ {h1 h2 : Heap}, Kept h0 h1 → (∀ b o, b ∉ [I] → h1.get? b = some o → h2.get? b = some o) → Kept h0 h2 := fun k f b o e => f b o (fun z => by rw [List.mem_singleton.mp z, nI] at e; cases e) (k b o e)
  intro k
  induction k with
  | zero =>
    intro j s vb c hk hj it lst hvb hS kp hR
    have top : j + 1 = vs.length := by omega
    refine codeAny_builtin PySem.F.entry_max_loop ?_
    rw [Around.under_plainId PySem.F.plain_max_loop _]
    show wpAny _ A.in1 (seqItems? (.ref S) >>= _) _ _ s
    refine wpAny_bind (wpAny_seqItems hS rfl ?_)
    show wpAny _ A.in1 (tryCatch (pyNext (.ref I)) _ >>= _) _ _ s
    refine wpAny_bind (wpAny_tryCatch (W.done s _ _ ⟨by rw [size, ← top]; exact it, lst⟩ fun h' tk keep => ?_))
    have hS' := keep S _ (by simpa using hSI) hS
    have sb := Heap.SameBut.update h' S (Obj.mapSeq fun _ => (#[] : Array Value))
    show wpAny _ A.in1 (updateSeq S (fun _ => #[]) >>= _) _ _ _
    refine wpAny_bind ?_
    refine wpAny_updateSeq hS' rfl (wpAny_bind (wpAny_letGo (wpAny_pure ?_)))
    have e : vs.length - 1 = j := by omega
    exact hR vb _ tk (by rw [e]; exact hvb) (upS (upI kp keep) sb)
  | succ k ih =>
    intro j s vb c hk hj it lst hvb hS kp hR
    have lt : j + 1 < vs.length := by omega
    refine codeAny_builtin PySem.F.entry_max_loop ?_
    rw [Around.under_plainId PySem.F.plain_max_loop _]
    show wpAny _ A.in1 (seqItems? (.ref S) >>= _) _ _ s
    refine wpAny_bind (wpAny_seqItems hS rfl ?_)
    show wpAny _ A.in1 (tryCatch (pyNext (.ref I)) _ >>= _) _ _ s
    refine wpAny_bind (wpAny_tryCatch (W.item (j + 1) s _ _ (by rw [size]; exact lt) ⟨it, lst⟩ fun v h' tk hP st keep => ?_))
    have hv : vs[j + 1]? = some v := by simpa using hP
    have hS' := keep S _ (by simpa using hSI) hS
    have kp' := upI kp keep
    show wpAny _ A.in1 (tryCatch (holding [v, v] (richCompare .Gt v vb >>= _)) _ >>= _) _ _ _
    refine wpAny_bind (wpAny_tryCatch (wpAny_holding (wpAny_bind (cmp _ (j + 1) (argBest gt j) v vb kp' hv hvb prog w _ _ ?_))))
    refine wpAny_bind (wpAny_holding (wpAny_truthy_bool ?_))
    refine wpAny_bind (wpAny_letGo (wpAny_pure ?_))
    have sb := Heap.SameBut.update h' S (Obj.mapSeq fun _ => #[v, v])
    cases hb : gt (j + 1) (argBest gt j) with
    | true =>
      obtain ⟨c2, hc2⟩ : ∃ c2, (h'.update S (Obj.mapSeq fun _ => #[v, v])).get? S = some (seqObj "list" #[v, v] c2) := ⟨_, get?_update_seq hS' fun _ => #[v, v]⟩
      simp only [if_true]
      refine wpAny_bind ?_
      refine wpAny_updateSeq hS' rfl (wpAny_bind (wpAny_letGo ?_))
      rw [nm]
      refine wpAny_pure ⟨plainId_quiet PySem.F.plain_max_loop _, ih (j + 1) _ v c2 (by omega) lt ?_ ?_ (by simp only [argBest, hb, if_true]; exact hv) hc2 (upS kp' sb) fun v' h'' tk' q1 q2 => hR v' h'' tk' q1 q2⟩
      · obtain ⟨o, e, r⟩ := st.1
        exact ⟨o, (sb.2 I hSI.symm).trans e, r⟩
      · obtain ⟨o, e, r⟩ := st.2
        exact ⟨o, (sb.2 l hSl.symm).trans e, r⟩
    | false =>
      simp only [Bool.false_eq_true, if_false]
      refine wpAny_bind (wpAny_letGo ?_)
      rw [nm]
      exact wpAny_pure ⟨plainId_quiet PySem.F.plain_max_loop _, ih (j + 1) _ vb c (by omega) lt st.1 st.2 (by simp only [argBest, hb, Bool.false_eq_true, if_false]; exact hvb) hS' kp' fun v' h'' tk' q1 q2 => hR v' h'' tk' q1 q2⟩
end
end BS
set_option Elab.async false
set_option linter.all false
set_option maxRecDepth 100000
set_option maxHeartbeats 4000000
namespace BS
open PySem PySem.Spec PyProof.Rows L2
section
variable {prog : Program} {w : World} {A : Around} {E : Value → Shared → Prop}
theorem maxCall {s : Shared} {l : Addr} {vs : List Value} {Q : Value → Shared → Prop} (gt : Nat → Nat → Bool) (hh : A.handled = none) (hl : s.heap.IsList l vs.toArray) (hne : 0 < vs.length)
    (cmp : ∀ (s' : Shared) (i j : Nat) (vi vj : Value), Kept s.heap s'.heap → vs[i]? = some vi → vs[j]? = some vj → RcO A.in1 s' .Gt vi vj (gt i j))
    (hQ : ∀ v h' tk, vs[argBest gt (vs.length - 1)]? = some v → Kept s.heap h' → Q v { s with heap := h', toks := tk }) :
    wpAny (model prog w) A (call (.builtin "max") [.ref l]) Q E s := by
  have nm : (toString "max" ++ toString ".loop" : String) = "max.loop" := by decide
  obtain ⟨ol, hol, hrest⟩ := id hl
  have hll : l < s.heap.objs.size := Heap.lt_size hol
  refine call_function_tree PySem.F.kind_max PySem.F.plain_max PySem.F.entry_max (PySem.F.args_max1 _) ?_
  show wpAny _ A.in1 (Builtin.Builtins.bindParams "max" ["key", "default"] 0 ⟨[], []⟩ >>= _) _ _ s
  refine wpAny_bind (wpAny_of_eq (show Builtin.Builtins.bindParams "max" ["key", "default"] 0 ⟨[], []⟩ = pure [none, none] from rfl) ?_)
  refine wpAny_bind (wpAny_pure ?_)
  refine wpAny_bind (wpAny_pyIter_list hl ?_)
  refine wpAny_bind (wpAny_newList ?_ (Nat.zero_le _))
  rw [nm]
  generalize hit : ({ cls := .type "list_iterator", data := .fields #[.ref l, .int 0 0] } : Obj) = oit
  have z1 : (s.heap.push oit).objs.size = s.heap.objs.size + 1 := size_push' ..
  have aSI : (s.heap.push oit).objs.size ≠ s.heap.objs.size := by rw [z1]; exact Nat.ne_of_gt (Nat.lt_succ_self _)
  have alI : l ≠ s.heap.objs.size := Nat.ne_of_lt hll
  have aSl : (s.heap.push oit).objs.size ≠ l := by rw [z1]; exact Nat.ne_of_gt (Nat.lt_succ_of_lt hll)
  have k0 : Kept s.heap ((s.heap.push oit).push (seqObj "list" #[] 0)) := fun b o e => Heap.get?_push_of_some _ (Heap.get?_push_of_some _ e)
  have gI : ((s.heap.push oit).push (seqObj "list" #[] 0)).get? s.heap.objs.size = some oit := Heap.get?_push_of_some _ (Heap.get?_push_size _ (by rw [← hit]; rfl))
  have gS : ((s.heap.push oit).push (seqObj "list" #[] 0)).get? (s.heap.push oit).objs.size = some (seqObj "list" #[] 0) := Heap.get?_push_size _ rfl
  have nI : s.heap.get? s.heap.objs.size = none := Heap.get?_none_of_le (Nat.le_refl _)
  have nS : s.heap.get? (s.heap.push oit).objs.size = none := Heap.get?_none_of_le (by rw [z1]; omega)
  have W := Walks.list (prog := prog) (w := w) (A := A.in1) hh s.heap.objs.size l alI vs.toArray
  have size : vs.toArray.size = vs.length := List.size_toArray ..
  refine wpAny_pure ⟨plainId_quiet PySem.F.plain_max_loop _, ?_⟩
  refine codeAny_builtin PySem.F.entry_max_loop ?_
  rw [Around.under_plainId PySem.F.plain_max_loop _]
  show wpAny _ A.in1 (seqItems? (.ref _) >>= _) _ _ _
  refine wpAny_bind (wpAny_seqItems gS rfl ?_)
  show wpAny _ A.in1 (tryCatch (pyNext (.ref s.heap.objs.size)) _ >>= _) _ _ _
  refine wpAny_bind (wpAny_tryCatch (W.item 0 _ _ _ (by rw [size]; exact hne) ⟨⟨_, gI, by rw [← hit], by rw [← hit]; rfl⟩, ⟨ol, k0 _ _ hol, hrest⟩⟩ fun v h' tk hP st keep => ?_))
  have hv : vs[0]? = some v := by simpa using hP
  have kI : Kept s.heap h' := fun b o e => keep b o (fun z => by rw [List.mem_singleton.mp z, nI] at e; cases e) (k0 b o e)
  have hS' := keep _ _ (by simpa using aSI) gS
  have sb := Heap.SameBut.update h' (s.heap.push oit).objs.size (Obj.mapSeq fun _ => #[v, v])
  obtain ⟨c2, hc2⟩ : ∃ c2, (h'.update (s.heap.push oit).objs.size (Obj.mapSeq fun _ => #[v, v])).get? (s.heap.push oit).objs.size = some (seqObj "list" #[v, v] c2) := ⟨_, get?_update_seq hS' fun _ => #[v, v]⟩
  show wpAny _ A.in1 (updateSeq (s.heap.push oit).objs.size (fun _ => #[v, v]) >>= _) _ _ _
  refine wpAny_bind ?_
  refine wpAny_updateSeq hS' rfl ?_
  rw [nm]
  refine wpAny_pure ⟨plainId_quiet PySem.F.plain_max_loop _, maxLoop (h0 := s.heap) gt hh alI aSI aSl nI nS cmp _ 0 _ v c2 rfl hne ?_ ?_ hv hc2 (fun b o e => (sb.2 b (fun z => by rw [z, nS] at e; cases e)).trans (kI b o e)) fun v' h'' tk' q1 q2 => hQ v' h'' tk' q1 q2⟩
  · obtain ⟨o, e, r⟩ := st.1
    exact ⟨o, (sb.2 _ aSI.symm).trans e, r⟩
  · obtain ⟨o, e, r⟩ := st.2
    exact ⟨o, (sb.2 l aSl.symm).trans e, r⟩
end
abbrev gtP (x y : Int × Int) : Bool := decide (y.1 < x.1 ∨ (y.1 = x.1 ∧ y.2 < x.2))
def bestAt (l : List (Int × Int)) (k : Nat) : Nat := argBest (fun i j => gtP (l.getD i (0, 0)) (l.getD j (0, 0))) k
def zpD (x : Int × Int) : D := .tup [.int x.1, .int x.2]
def zpK (x : Int × Int) : D := .key x.1 x.2
section
variable {X : Cx} {tb : Option Tb} {ss ss' : Ss} {ow ow' : Ow} {e a b c : Expr} {es : List Expr} {pos : Pos} {d d1 d2 : D} {ds : List D} {o : Out} {k : Nat}
theorem pairs_heap {pins : List (Addr × Obj)} {σ : L2.St} {H : Hp} {s : Shared} (I : Inv X pins σ H s) {A : List Addr} : ∀ {ps : List (Int × Int)} {ds : List D} {xs : List V} {us : List Value}, ds = ps.map zpD ∨ ds = ps.map zpK → Dqs X.K (hid A H) xs ds → Vals xs us →
    ∀ (i : Nat) (u : Value), us[i]? = some u → ∃ p q t1 t2, u = .ref p ∧ ps[i]? = some q ∧ IsTup s.heap p #[.int q.1 t1, .int q.2 t2]
  | [], _, _, _, hd, h, r, i, u, e => by
    rcases hd with rfl | rfl <;> (cases h; cases r; simp at e)
  | q :: ps, _, _, _, hd, h, r, i, u, e => by
    obtain ⟨d, ds, hd', hd2⟩ : ∃ d ds, (d = zpD q ∨ d = zpK q) ∧ (ds = ps.map zpD ∨ ds = ps.map zpK) ∧ _ = d :: ds := by
      rcases hd with hd | hd
      · exact ⟨zpD q, ps.map zpD, .inl rfl, .inl rfl, hd⟩
      · exact ⟨zpK q, ps.map zpK, .inr rfl, .inr rfl, hd⟩
    obtain ⟨hd2, e2⟩ := hd2
    subst e2
    cases h with
    | cons h1 h2 =>
      cases r with
      | cons r1 r2 =>
        cases i with
        | succ i => exact pairs_heap I hd2 h2 r2 i u (by simpa using e)
        | zero =>
          simp only [List.getElem?_cons_zero, Option.some.injEq] at e
          subst e
          rename_i v0 vs0 b0 l0
          have h1' : Dq X.K (hid A H) v0 (zpD q) := by
            rcases hd' with rfl | rfl
            · exact h1
            · exact h1.pair
          cases h1' with
          | tup s1 q1 =>
            have e4 := Dqs.of_ints (ns := [q.1, q.2]) q1
            rw [e4] at s1
            cases r1
            obtain ⟨its, rv, ht, _⟩ := I.tuple (sqT_le le_hid s1)
            obtain ⟨t, u', e5⟩ := Vals.int2 rv
            rw [e5] at ht
            exact ⟨_, q, t, u', rfl, rfl, ht⟩
theorem ex_max {p1 : Pos} {ps : List (Int × Int)} {f : Int × Int → D} (hf : f = zpD ∨ f = zpK) (hm : X.mg "max" = none) (hr : Room k X.A) (hcalm : X.calm = true) (h : Ex tb X e ss ow (.lst (ps.map f))) (hne : 0 < ps.length) (hd : d = f (ps.getD (bestAt ps (ps.length - 1)) (0, 0)))
    (hg : Gl X "max" := by rfl) (hs : starEach [e] X.env = [(false, eval e X.env)] := by rfl) (hbb : bootBuiltins "max" = some (.builtin "max") := by decide +kernel) : Ex tb X (.Call (.Name "max" p1) [e] [] pos) ss ow d := by
  have rule : CallR X (.builtin "max") (fun vs H Q => ∃ (A : List Addr), DomOk A H ∧ Dqs X.K (hid A H) vs [.lst (ps.map f)] ∧ ∀ v, Dq X.K (hid A H) v d → Q v H) := by
    intro pins s σ H vs us Q I r hq
    obtain ⟨A, hdom, hv, q⟩ := hq
    cases hv with
    | cons h1 h2 =>
      cases h2
      cases h1 with
      | lst s1 q1 =>
        rename_i la xs
        rw [Vals.ref1 r]
        obtain ⟨its, rv, hl, _⟩ := I.list (sqL_le le_hid s1)
        have hlen : its.length = ps.length := by rw [← rv.length, q1.length, List.length_map]
        have hv := pairs_heap I (ps := ps) (hf.elim (fun z => .inl (by rw [z])) fun z => .inr (by rw [z])) q1 rv
        refine maxCall (fun i j => gtP (ps.getD i (0, 0)) (ps.getD j (0, 0))) (I.ok.hd hcalm) hl.isList (by omega) (fun s' i j vi vj kp ei ej => ?_) fun v h' tk ev kp => ?_
        · obtain ⟨p, x, t1, t2, rfl, ex, tx⟩ := hv i vi ei
          obtain ⟨p', y, t3, t4, rfl, ey, ty⟩ := hv j vj ej
          have e1 : ps.getD i (0, 0) = x := by simp [ex]
          have e2 : ps.getD j (0, 0) = y := by simp [ey]
          rw [e1, e2]
          have keep : ∀ {p : Addr} {its : Array Value}, IsTup s.heap p its → IsTup s'.heap p its := fun ⟨o, e, r⟩ => ⟨o, kp _ _ e, r⟩
          exact rcO_pair_gt (keep tx) (keep ty) (by have := hr.un; show X.A.units + 1 < cLine; omega)
        · rw [hlen] at ev
          have hb : bestAt ps (ps.length - 1) < xs.length := by
            rw [rv.length]
            exact (List.getElem?_eq_some_iff.mp ev).1
          obtain ⟨w0, ew, dw⟩ := q1.get' (List.getElem?_eq_getElem hb)
          obtain ⟨u, eu, ru⟩ := rv.get (List.getElem?_eq_getElem hb)
          have e3 : u = v := Option.some.inj (eu.symm.trans ev)
          subst e3
          refine ⟨_, H, I.kept kp, ru, q _ ?_⟩
          rw [List.getElem?_map] at ew
          cases e4 : ps[bestAt ps (ps.length - 1)]? with
          | none => rw [e4] at ew; cases ew
          | some x =>
            rw [e4] at ew
            have e5 : f x = w0 := Option.some.inj ew
            have e6 : ps.getD (bestAt ps (ps.length - 1)) (0, 0) = x := by simp [e4]
            rw [hd, e6, e5]
            exact dw
  exact PE.imp (pe_callB rule hg hm hbb (xs_one h hs) (he := hs)) fun σ H Q ⟨A, H0, po, S, q⟩ => ⟨A, H0, po, S, fun vs H' m z => ⟨po ++ A, (S.step m).domP, z, fun v z' => q v H' m z'⟩⟩
end
end BS
namespace BS
open PySem PySem.Spec PyProof.Rows L2
section
variable {X : Cx} {tb : Option Tb} {ss ss' : Ss} {ow ow' : Ow} {e a b c : Expr} {es : List Expr} {pos : Pos} {d d1 d2 : D} {ds : List D} {o : Out} {k : Nat}
theorem isTup_pair {h : Heap} {p : Addr} {x y x' y' : Int} {t u t' u' : Tok} (h1 : IsTup h p #[.int x t, .int y u]) (h2 : IsTup h p #[.int x' t', .int y' u']) : x = x' ∧ y = y' := by
  obtain ⟨o, e1, c1, n1, d1⟩ := h1
  obtain ⟨o', e2, c2, n2, d2⟩ := h2
  rw [e1] at e2
  cases e2
  rw [d1] at d2
  injection d2 with q _
  have q2 : [Value.int x t, Value.int y u] = [Value.int x' t', Value.int y' u'] := by simpa using q
  injection q2 with q3 q4
  injection q4 with q5 _
  injection q3 with q6 _
  injection q5 with q7 _
  exact ⟨q6, q7⟩
open Classical in
theorem mt_indexP {ps : List (Int × Int)} {f g : Int × Int → D} (hf : f = zpD ∨ f = zpK) (hg : g = zpD ∨ g = zpK) {q : Int × Int} {j : Nat} (hr : Room k X.A) (hj : ps[j]? = some q) (hno : ∀ m, m < j → ps[m]? ≠ some q) :
    MtR X "list.index" (fun x vs H Q => ∃ A, Dq X.K (hid A H) x (.lst (ps.map f)) ∧ Dqs X.K (hid A H) vs [g q] ∧ Q (.int (j : Nat)) H) := by
  intro pins s σ H x xs v us Q I rx rxs h
  obtain ⟨A, h1, h2, hQ⟩ := h
  cases h1 with
  | lst s1 q1 =>
    cases rx
    obtain ⟨its, rv, ⟨⟨cls, dd, data, sl⟩, n, ho, hc, hdn, hd⟩, hlen⟩ := I.list (sqL_le le_hid s1)
    simp only at hc hd
    subst hc hd
    have hv := pairs_heap I (ps := ps) (hf.elim (fun z => .inl (by rw [z])) fun z => .inr (by rw [z])) q1 rv
    have hu := pairs_heap I (ps := [q]) (hg.elim (fun z => .inl (by rw [z]; rfl)) fun z => .inr (by rw [z]; rfl)) h2 rxs
    cases h2 with
    | cons h3 h4 =>
      cases h4
      cases rxs with
      | cons r3 r4 =>
        cases r4
        rename_i uy
        obtain ⟨pq, q', tq1, tq2, rfl, eq', tq⟩ := hu 0 uy rfl
        have e1 : q = q' := by simpa using eq'
        subst e1
        have hlp : its.length = ps.length := by rw [← rv.length, q1.length, List.length_map]
        have hjl : j < its.length := by
          rw [hlp]
          exact (List.getElem?_eq_some_iff.mp hj).1
        have hsl := sizeLine_eq
        have hll := rv.length
        have val : ∀ (i : Nat) (u : Value), its[i]? = some u → decide (∃ m : Nat, its[m]? = some u ∧ ps[m]? = some q) = decide (ps[i]? = some q) := fun i u ei => by
          obtain ⟨p, x, t1, t2, rfl, ex, tx⟩ := hv i u ei
          by_cases hx : x = q
          · subst hx
            rw [decide_eq_true ⟨i, ei, ex⟩, decide_eq_true ex]
          · rw [decide_eq_false (fun z => ?_), decide_eq_false (fun z => hx (Option.some.inj (ex.symm.trans z)))]
            obtain ⟨m, em, eq2⟩ := z
            obtain ⟨p', x', t3, t4, e3, ex', tx'⟩ := hv m _ em
            injection e3 with e3
            subst e3
            have e4 : x' = q := Option.some.inj (ex'.symm.trans eq2)
            subst e4
            obtain ⟨z1, z2⟩ := isTup_pair tx tx'
            exact hx (Prod.ext z1 z2)
        refine call_meets PySem.F.slot_list_index ⟨_, ho, rfl⟩ PySem.F.entry_list_index (PySem.F.args_list_index_2 _ _)
          (SeqAt.list_indexAt _ its.toArray n dd sl (.ref pq) (fun u => decide (∃ m : Nat, its[m]? = some u ∧ ps[m]? = some q)) j (by simpa using hjl) (by omega) ?_ ?_) ⟨ho, fun u hu' => ?_, ?_⟩
        · have ej : its[j]? = some its[j] := List.getElem?_eq_getElem hjl
          have e5 : its.toArray[j] = its[j] := by simp
          rw [e5, val j _ ej]
          exact decide_eq_true hj
        · intro m hm hmj
          have hml : m < its.length := by simpa using hm
          have ej : its[m]? = some its[m] := List.getElem?_eq_getElem hml
          have e5 : its.toArray[m] = its[m] := by simp
          rw [e5, val m _ ej]
          exact decide_eq_false (hno m hmj)
        · have hu2 : u ∈ its := by simpa using hu'
          obtain ⟨i, hi, ei⟩ := List.getElem_of_mem hu2
          have ei' : its[i]? = some u := by rw [List.getElem?_eq_getElem hi, ei]
          rw [val i u ei']
          obtain ⟨p, x, t1, t2, rfl, ex, tx⟩ := hv i u ei'
          have z := eqAt_pair (A := X.A.in1) tx tq (by have := hr.un; show X.A.units + 1 < cLine; omega)
          have e6 : (decide (x.1 = q.1) && decide (x.2 = q.2)) = decide (ps[i]? = some q) := by
            rw [ex]
            by_cases hx : x = q
            · subst hx
              simp
            · rw [decide_eq_false (fun z => hx (Option.some.inj z))]
              by_cases h1 : x.1 = q.1
              · have h2 : x.2 ≠ q.2 := fun z => hx (Prod.ext h1 z)
                simp [h2]
              · simp [h1]
          rw [e6] at z
          exact z
        · exact ⟨.int (j : Nat), H, I.tok _, ⟨_, rfl⟩, hQ⟩
theorem ex_index {ps : List (Int × Int)} {f g : Int × Int → D} {p2 p3 : Pos} (hf : f = zpD ∨ f = zpK) (hg : g = zpD ∨ g = zpK) {q : Int × Int} {j : Nat} (hr : Room k X.A) (ha : Ex tb X a ss ow (.lst (ps.map f))) (hb : Ex tb X b ss ow (g q)) (hj : ps[j]? = some q) (hno : ∀ m, m < j → ps[m]? ≠ some q)
    (hbase : attributeBase a "index" X.env (eval a X.env) = eval a X.env := by rfl) (hline : (p2.endLine == p3.line) = true := by rfl) (hst : starEach [b] X.env = [(false, eval b X.env)] := by rfl)
    (hfew : ((backTo p3 (starEach [b] X.env)).all (fun x => !x.1) && (backToKw p3 (keywordEach [] X.env)).all (fun x => x.1.isSome) && decide (([b] : List Expr).length + ([] : List Keyword).length + (if ([] : List Keyword).isEmpty then 0 else 1) < 30)) = true := by rfl) :
    Ex tb X (.Call (.Attribute a "index" p2) [b] [] p3) ss ow (.int (j : Nat)) :=
  PE.imp (pe_bm PySem.F.plainAttrs_list PySem.F.slot_list_index PySem.F.type_list_index (mt_indexP hf hg hr hj hno) ha (xs_one hb hst) hbase hfew hline hst rfl) fun σ H Q ⟨A, H0, po, S, k⟩ => ⟨A, H0, po, S, fun x H1 m1 z1 => by
    refine ⟨?_, A, H0, po, S.step m1, fun vs H2 m2 z2 => ⟨po ++ A, z1.le m2.le, z2, k _ H2 (m1.trans m2) (.int _)⟩⟩
    cases z1 with
    | lst s r => exact .inl ⟨rfl, _, sqL_le le_hid s⟩⟩
end
end BS
set_option Elab.async false
set_option linter.all false
set_option maxRecDepth 100000
set_option maxHeartbeats 4000000
namespace BS
open PySem PySem.Spec PyProof.Rows L2
section
variable {X : Cx} {tb : Option Tb} {ss ss' : Ss} {ow ow' : Ow} {e a b c : Expr} {es : List Expr} {pos : Pos} {d d1 d2 : D} {ds ds' : List D} {o : Out} {k : Nat}
def rCatL (K : PySem.W.Frag) : R2 := fun x y H Q => ∃ l b xs zs, x = .ref l ∧ y = .ref b ∧ SqL K H l xs ∧ SqL K H b zs ∧ xs.length + zs.length ≤ sizeLine ∧ ∀ p, H p = none → Q (.ref p) (upd H p (.lst (xs ++ zs)))
theorem op_catL : OpR X (binaryOp .Add) (rCatL X.K) := by
  intro pins s σ H x y v u Q I rx ry h
  obtain ⟨l, b, xs, zs, rfl, rfl, hH, hB, hz, q⟩ := h
  cases rx
  cases ry
  obtain ⟨its, r, ⟨⟨cls, dd, data, sl⟩, n, e, hc, hdn, hd⟩, hl⟩ := I.list hH
  obtain ⟨its2, r2, ⟨⟨cls2, dd2, data2, sl2⟩, n2, e2, hc2, hdn2, hd2⟩, hl2⟩ := I.list hB
  simp only at hc hd hc2 hd2
  subst hc hd hc2 hd2
  have z1 := r.length
  have z2 := r2.length
  refine concat_meets ⟨_, e, rfl⟩ ⟨_, e2, rfl⟩ noFill_list_add seq_list_add F.slot_list_add F.entry_list_add (F.args_list_add_2 _ _) (list_addW l b its.toArray its2.toArray n n2 dd dd2 sl sl2 (by rw [List.size_toArray, List.size_toArray]; omega)) ⟨e, e2, ?_⟩
  have ea : its.toArray ++ its2.toArray = (its ++ its2).toArray := by simp
  rw [ea]
  exact ⟨.ref _, _, I.lnew (t' := s.toks) (r.append r2) (by rw [List.length_append]; omega), rfl, q _ I.fresh⟩
theorem ex_catL (ha : Ex tb X a ss ow (.lst ds)) (hb : Ex tb X b ss ow (.lst ds')) (hl : ds.length + ds'.length ≤ 16777216) : Ex tb X (.BinOp a .Add b pos) ss ow (.lst (ds ++ ds')) :=
  ex_op op_catL (fun A H x y Q hd ht hx hy q => by
    cases hx with
    | lst s1 q1 =>
      cases hy with
      | lst s2 q2 =>
        refine ⟨_, _, _, _, rfl, rfl, sqL_le le_hid s1, sqL_le le_hid s2, by rw [q1.length, q2.length, sizeLine_eq]; exact hl, fun p hp => q _ _ (.laid hp) (.lst (SqL.of (hid_iff.mpr ⟨hd.new hp, upd_same⟩)) ((q1.append q2).le (le_upd hp)))⟩) ha hb
end
end BS
set_option Elab.async false
set_option linter.all false
set_option maxRecDepth 100000
set_option maxHeartbeats 4000000
namespace BS
open PySem PySem.Spec PyProof.Rows L2
open PySem.W (CodeHd tabObj kla_obj kla_fn envX)
structure LamB (mg : Str → Option Value) (base : Heap) (c P : Addr) : Prop where
  code : CodeHd base c P
  bm : ∃ bm ob, mg "__builtins__" = some (.ref bm) ∧ bm ≠ builtinsNs ∧ base.get? bm = some ob ∧ ob.cls = .type "module" ∧ ob.dict = some builtinsNs ∧ ob.data = .plain
section
variable {X : Cx} {pins : List (Addr × Obj)} {σ : L2.St} {H : Hp} {s : Shared}
theorem LamB.builtins {c P : Addr} {o : HO} (LB : LamB X.mg X.base c P) (I : L2.Inv X pins σ H s) (hP : H P = some o) : s.heap.BuiltinsAt X.mg P := by
  obtain ⟨bm, ob, h1, h2, h3, h4, h5, h6⟩ := LB.bm
  refine ⟨bm, ob, h1, h2, fun z => ?_, fun z => ?_, I.bk _ _ h3, h4, h5, h6⟩
  · obtain ⟨o', es, ep, e, d, _⟩ := I.mod.glob
    rw [← z, h3] at e
    cases e
    rw [h6] at d
    cases d
  · have := (I.bs _ _ h3).2
    rw [z, hP] at this
    cases this
abbrev codeOb (c : Addr) (qual : Str) : HO := .ext fun h => h.CodeRec (.ref c) qual
abbrev funOb (q : Addr) (o : Obj) : HO := .ext fun h => h.get? q = some o
theorem lam_make {b : Tb} {c : Addr} {params : Arguments} {body : Expr} {scope : Scope} {lpos : Pos} {Q : Value → Shared → Prop} {E : Value → Shared → Prop} (I : L2.Inv X pins σ H s) (ht : TbOk (some b) H) (LB : LamB X.mg X.base c b.P) (hcode : X.env.code = .ref c)
    (hl : b.line = lpos.line) (hcol : b.col = lpos.col) (hq : X.env.qual ++ "<lambda>" = b.qual) (hfree : ∀ y ∈ scope.names, y.2 = .free → ∃ c, X.env.cells.lookup y.1 = some c) (hdef : defaultsOf params X.env = ([], []))
    (h : ∀ (s' : Shared) (H' : Hp) (q c' : Addr) (pm ctv : Value), L2.Inv X pins σ H' s' → Sm (some b) H H' → H q = none → H' q = some (funOb q (kla_obj "<lambda>" b.qual params body scope (cloFrom X.env.cells scope.names []) pm c' ctv)) → H' c' = some (codeOb c' b.qual) → Q (.ref q) s') :
    wpAny (model X.prog X.w) X.A (eval (.Lambda params body scope lpos) X.env) Q E s := by
  refine PySem.W.kla_eval hdef ?_
  rw [hq]
  rcases ht with ht | ⟨c', ht, hc'⟩
  · have hP : s.heap.get? b.P = some (tabObj #[]) := I.hok _ _ ht
    have hgP : mainGlobals ≠ b.P := fun z => by
      obtain ⟨o', es, ep, e, d, _⟩ := I.mod.glob
      have := (I.bs _ _ e).2
      rw [z, ht] at this
      cases this
    refine PySem.W.kla_makeFunction (mg := X.mg) (P := b.P) (ps := #[]) (closure_ok hfree) I.ok.glob (I.mod.glob.keeps I.bk) hcode (LB.code.keeps I.bk) hP trivial rfl hgP (LB.builtins I ht) fun c' ctv h' tk hx hge hlt hrec htb => ?_
    have hcn : H c' = none := I.hok.fresh hge
    have hqn : H h'.objs.size = none := I.hok.fresh (Nat.le_trans hge (Nat.le_of_lt hlt))
    have hsz : s.heap.objs.size ≤ h'.objs.size := Nat.le_trans hge (Nat.le_of_lt hlt)
    have n1 : c' ≠ b.P := fun z => by rw [z, ht] at hcn; cases hcn
    have n2 : h'.objs.size ≠ b.P := fun z => by rw [z, ht] at hqn; cases hqn
    have n3 : c' ≠ h'.objs.size := Nat.ne_of_lt hlt
    generalize hob : kla_obj "<lambda>" b.qual params body scope (cloFrom X.env.cells scope.names []) ((X.mg "__name__").getD .none) c' ctv = ob
    have hfr : ob.isFreed = false := by rw [← hob]; rfl
    have kp : ∀ a o, a ≠ b.P → s.heap.get? a = some o → (h'.push ob).get? a = some o := fun a o n e => Heap.get?_push_of_some _ (hx a o n e)
    have gP : (h'.push ob).get? b.P = some (tabObj #[rawInt b.line, rawInt b.col, .ref c']) := by
      rw [hl, hcol]
      refine Heap.get?_push_of_some _ ?_
      simpa using htb
    have gq : (h'.push ob).get? h'.objs.size = some ob := Heap.get?_push_size _ hfr
    generalize hq' : h'.objs.size = q at hqn hsz n2 n3 gq ⊢
    let H' : Hp := upd (upd (upd H c' (codeOb c' b.qual)) b.P (.tbl #[rawInt b.line, rawInt b.col, .ref c'])) q (funOb q ob)
    have e1 : H' q = some (funOb q ob) := upd_same
    have e2 : H' b.P = some (.tbl #[rawInt b.line, rawInt b.col, .ref c']) := by
      show upd _ q _ b.P = _
      rw [upd_ne n2.symm, upd_same]
    have e3 : H' c' = some (codeOb c' b.qual) := by
      show upd _ q _ c' = _
      rw [upd_ne n3, upd_ne n1, upd_same]
    have e4 : ∀ a, a ≠ q → a ≠ b.P → a ≠ c' → H' a = H a := fun a z1 z2 z3 => by
      show upd _ q _ a = _
      rw [upd_ne z1, upd_ne z2, upd_ne z3]
    have e5 : ∀ a o, H a = some o → a ≠ b.P → H' a = some o := fun a o e n => by
      rw [e4 a (ne_of_none e hqn) n (ne_of_none e hcn)]
      exact e
    have nP : ∀ a, H a = none → a ≠ b.P := fun a n z => by rw [z, ht] at n; cases n
    have un : Un X.fs [] H H' s.heap (h'.push ob) := by
      refine ⟨fun a o e n _ _ => kp a o (nP a n) e, fun a o e n _ _ => ⟨o.slots, kp a o (nP a n) e⟩, fun a o e n _ => ?_, fun a o e _ => ?_, fun a xs e => e5 a _ e (fun z => by rw [z, ht] at e; cases e), fun a o u e => e5 a _ e (fun z => by rw [z, ht] at e; cases e), fun a ps e => ?_⟩
      · have la : a < s.heap.objs.size := Heap.lt_size e
        rw [e4 a (Nat.ne_of_lt (Nat.lt_of_lt_of_le la hsz)) (nP a n) (Nat.ne_of_lt (Nat.lt_of_lt_of_le la hge))]
        exact n
      · by_cases z : a = b.P
        · subst z
          exact ⟨_, gP⟩
        · exact ⟨o, kp a o z e⟩
      · by_cases z : a = b.P
        · subst z
          rw [ht] at e
          have e' : (#[] : Array Value) = ps := by
            have := Option.some.inj e
            injection this
          subst e'
          exact ⟨#[rawInt b.line, rawInt b.col, .ref c'], by rw [e2]; simp⟩
        · exact ⟨#[], by rw [e5 a _ e z]; simp⟩
    have hok : HOk X.prog X.w H' (h'.push ob) := fun a o e => by
      by_cases z1 : a = q
      · subst z1
        rw [e1] at e
        cases e
        exact ⟨gq, ⟨_, gq⟩, fun h1 h2 p k => k _ p⟩
      · by_cases z2 : a = b.P
        · subst z2
          rw [e2] at e
          cases e
          exact gP
        · by_cases z3 : a = c'
          · subst z3
            rw [e3] at e
            cases e
            have r2 := hrec.push ob
            refine ⟨r2, ?_, fun h1 h2 p k => ?_⟩
            · obtain ⟨c2, o, vs, t, z, g, _⟩ := r2
              cases z
              exact ⟨o, g⟩
            · obtain ⟨c2, o, vs, t, z, g, r⟩ := p
              cases z
              exact ⟨_, o, vs, t, rfl, k _ g, r⟩
          · rw [e4 a z1 z2 z3] at e
            refine (I.hok a o e).stay (fun c u hc g => kp c u (fun z => ?_) g) (fun c g => e5 c _ g (fun z => by rw [z, ht] at g; cases g)) fun c xs g => e5 c _ g (fun z => by rw [z, ht] at g; cases g)
            rcases hc with hc | hc
            · exact z2 (hc.symm.trans z)
            · rw [z, ht] at hc
              cases hc
    refine h _ H' q c' _ ctv (I.un un hok) ⟨fun a o e n => e5 a o e (fun z => ?_), fun a o e => ?_, fun _ => .inr ⟨c', e2, e3⟩⟩ hqn (by rw [hob]; exact e1) e3
    · rw [z, ht] at e
      exact n _ (Option.some.inj e).symm
    · by_cases z : a = b.P
      · subst z
        exact ⟨_, e2⟩
      · exact ⟨o, e5 a o e z⟩
  · have hP : s.heap.get? b.P = some (tabObj #[rawInt b.line, rawInt b.col, .ref c']) := I.hok _ _ ht
    have hf : codeAmong lpos (#[rawInt b.line, rawInt b.col, .ref c'] : Array Value).toList = some (.ref c') := by
      rw [hl, hcol]
      simp [codeAmong, rawInt]
    refine PySem.W.kla_makeFunctionHit (mg := X.mg) (P := b.P) (closure_ok hfree) I.ok.glob (I.mod.glob.keeps I.bk) hcode (LB.code.keeps I.bk) hP trivial hf (LB.builtins I ht) fun ctv h' tk kp hsz => ?_
    have hqn : H h'.objs.size = none := I.hok.fresh hsz
    show Q (.ref h'.objs.size) { s with heap := h'.push (kla_obj "<lambda>" b.qual params body scope (cloFrom X.env.cells scope.names []) ((X.mg "__name__").getD .none) c' ctv), toks := tk }
    generalize hob : kla_obj "<lambda>" b.qual params body scope (cloFrom X.env.cells scope.names []) ((X.mg "__name__").getD .none) c' ctv = ob
    have hfr : ob.isFreed = false := by rw [← hob]; rfl
    have gq : (h'.push ob).get? h'.objs.size = some ob := Heap.get?_push_size _ hfr
    have sm : Sm (some b) H (upd H h'.objs.size (funOb h'.objs.size ob)) := .laid hqn
    refine h _ _ h'.objs.size c' _ ctv (I.laid (o := funOb h'.objs.size ob) (t' := tk) (fun a u e => Heap.get?_push_of_some _ (kp a u e)) hsz ⟨gq, ⟨_, gq⟩, fun h1 h2 p k => k _ p⟩) sm hqn (by rw [hob]; exact upd_same) (sm.keep _ _ hc' fun _ z => nomatch z)
abbrev lamCx (X : Cx) (A : Around) (s : Shared) (H : Hp) (env : Env) : Cx := { X with A := A.deeper env, s_0 := s, H_0 := H, env := env, outer := X.stack, stack := env :: X.stack, ex := [], fn := fun _ => false, calm := true, pn := [], xe := fun _ _ => False }
theorem lam_start {scope : Scope} {x qual : Str} {jq : Nat} {A : Around} {env : Env} {h1 : Heap} {tk : Nat} {vq : V} {u cd : Value} {q : Addr} (I : L2.Inv X pins σ H s) (ok : BlkOk X.N X.env.scope scope [(x, jq)]) (hN : X.N.Nodup) (hx : scope.names.lookup x = some .local) (hcell : ∀ y ∈ scope.names, y.2 ≠ .cell) (hd : A.handled = none) (hfr : A.frames = some X.stack)
    (henv : env = envX qual scope s.heap.objs.size q cd (cloFrom X.env.cells scope.names [])) (hns : h1.Ns s.heap.objs.size (fun y => [(x, u)].reverse.lookup y)) (kp : ∀ b o, s.heap.get? b = some o → h1.get? b = some o) (rv : RelV vq u) :
    L2.Inv (lamCx X A s H env) [] (σ.set jq (some vq)) H { s with heap := h1, toks := tk } := by
  have hfree : ∀ y ∈ scope.names, y.2 = .free → ∃ c, X.env.cells.lookup y.1 = some c := fun y hy e => by
    rcases ok.free y hy e with k | k
    · exact I.ok.has _ (.inl k)
    · exact I.ok.has _ (.inr k)
  have hL : env.locals = s.heap.objs.size := by rw [henv]
  have hcl : env.cells = cloFrom X.env.cells scope.names [] := by rw [henv]
  have hsc : env.scope = scope := by rw [henv]
  have cm : ∀ {y c}, env.cells.lookup y = some c → (y, NameKind.free) ∈ scope.names ∧ X.env.cells.lookup y = some c ∧ c < s.heap.objs.size := fun {y c} e => by
    rw [hcl] at e
    rcases cloFrom_mem (PySem.mem_of_lookup e) with hm | ⟨h1, rfl⟩
    · cases hm
    · obtain ⟨c, hc⟩ := hfree _ h1 rfl
      rw [hc]
      obtain ⟨w, z⟩ := I.cell _ _ hc
      exact ⟨h1, rfl, z.lt⟩
  have look : ∀ {y}, scope.names.lookup y = some .free → ∃ c, env.cells.lookup y = some c ∧ X.env.cells.lookup y = some c := fun {y} hl => by
    have hy : (y, NameKind.free) ∈ scope.names := PySem.mem_of_lookup hl
    obtain ⟨c', e'⟩ := mem_lookup (cloFrom_has (cells := X.env.cells) (acc := []) hy)
    rw [← hcl] at e'
    exact ⟨c', e', (cm e').2.1⟩
  have noA : ∀ b : Addr, b ∉ ([] : List Addr) := fun b z => nomatch z
  have okB : (lamCx X A s H env).Ok := by
    refine ⟨I.ok.mod, by show env.scope.kind = _; rw [hsc]; exact ok.kind, by show env.globals = _; rw [henv], by show env.builtins = _; rw [henv], by show s.heap.objs.size ≤ env.locals; rw [hL]; exact Nat.le_refl _,
      fun y z c a b => I.ok.inj y z c (cm a).2.1 (cm b).2.1, fun y hy => ?_, fun y c z _ => absurd z Bool.false_ne_true, fun _ => hd, Around.frames_deeper hfr, .inr ⟨rfl, by show env.frame = some env.locals; rw [henv]⟩, fun b z => absurd z (noA b), I.bs, Nat.le_trans I.ok.bsz I.sz, fun b _ _ => noA b, fun b z => absurd z (noA b), I.stack, I.stkFree⟩
    have hy : scope.names.lookup y = some .cell ∨ scope.names.lookup y = some .free := by
      unfold Env.kindOf at hy
      rw [show (lamCx X A s H env).env.scope = scope from hsc] at hy
      exact hy
    rcases hy with hy | hy
    · exact absurd rfl (hcell _ (PySem.mem_of_lookup hy))
    · obtain ⟨c, h1, _⟩ := look hy
      exact ⟨c, h1⟩
  refine ⟨okB, rfl, I.bare, Un.kept kp, ⟨_, by show Heap.Ns _ env.locals _; rw [hL]; exact hns, fun i y av e1 e2 e3 => ?_⟩, fun y c e => ?_, by show H env.locals = none; rw [hL]; exact I.hok.fresh (Nat.le_refl _), fun y c e => I.freeC y c (cm e).2.1, fun p hp => absurd (show p ∈ ([] : List (Addr × Obj)) ++ [] from hp) (by simp), I.hok.kept kp, by rw [List.length_set]; exact I.len⟩
  · have ix : X.N[jq]? = some x := ok.ix (x, jq) (List.mem_singleton.mpr rfl)
    by_cases hi : i = jq
    · subst hi
      have hlt : i < σ.length := by
        rw [I.len]
        exact (List.getElem?_eq_some_iff.mp ix).1
      rw [List.getElem?_set_self hlt] at e2
      have e4 : vq = av := by simpa using e2
      subst e4
      have e5 : y = x := Option.some.inj (e1.symm.trans ix)
      subst e5
      refine ⟨u, rv, .inl ⟨by unfold Env.kindOf; rw [show (lamCx X A s H env).env.scope = scope from hsc]; exact hx, ?_⟩⟩
      simp
    · rw [List.getElem?_set_ne (fun z => hi z.symm)] at e2
      have hfr2 : scope.names.lookup y = some .free := by
        have e3 : Vis scope y := by
          have e3 : Vis (lamCx X A s H env).env.scope y := e3
          rw [show (lamCx X A s H env).env.scope = scope from hsc] at e3
          exact e3
        have no : ∀ k, scope.names.lookup y = some k → k = .local ∨ k = .cell → False := fun k hk hh => by
          rcases ok.own _ (PySem.mem_of_lookup hk) hh with e' | e'
          · have e6 : y = x := by simpa using e'
            subst e6
            exact hi (nodup_ix hN e1 ix)
          · exact e' (List.mem_of_getElem? e1)
        rcases e3 with e3 | e3 | e3
        · exact (no _ e3 (.inl rfl)).elim
        · exact (no _ e3 (.inr rfl)).elim
        · exact e3
      obtain ⟨m, hn, hl⟩ := I.loc
      have hvis : Vis X.env.scope y := (ok.free _ (PySem.mem_of_lookup hfr2) rfl).elim (fun k => .inr (.inl k)) (fun k => .inr (.inr k))
      obtain ⟨w, r, z⟩ := hl i y av e1 e2 hvis
      obtain ⟨c, h2, h3⟩ := look hfr2
      refine ⟨w, r, .inr ⟨.inr (by unfold Env.kindOf; rw [show (lamCx X A s H env).env.scope = scope from hsc]; exact hfr2), c, h2, ?_⟩⟩
      rcases z with ⟨k, _⟩ | ⟨_, c', e', z⟩
      · have k : X.env.scope.names.lookup y = some .local := k
        rcases ok.free _ (PySem.mem_of_lookup hfr2) rfl with k' | k' <;> rw [show X.env.scope.names.lookup y = _ from k'] at k <;> cases k
      · rw [h3] at e'
        cases e'
        exact z.keeps kp
  · obtain ⟨w, z⟩ := I.cell y c (cm e).2.1
    exact ⟨w, z.keeps kp⟩
theorem lam_call {k jq : Nat} {q c' : Addr} {qual x : Str} {params : Arguments} {body : Expr} {scope : Scope} {pm ctv u : Value} {vq : V} {t : TE} {Q : VK} (I : L2.Inv X pins σ H s) (hr : Room (k + 2) X.A) (ok : BlkOk X.N X.env.scope scope [(x, jq)]) (hN : X.N.Nodup)
    (hx : scope.names.lookup x = some .local) (hcell : ∀ y ∈ scope.names, y.2 ≠ .cell) (hco : scope.isCoroutine = false) (hgen : scope.isGenerator = false)
    (ho : s.heap.get? q = some (kla_obj "<lambda>" qual params body scope (cloFrom X.env.cells scope.names []) pm c' ctv)) (hcd : s.heap.CodeRec (.ref c') qual)
    (hbind : bindArgs (kla_fn "<lambda>" qual params body scope (cloFrom X.env.cells scope.names []) pm (.ref c') ctv) ⟨[u], []⟩ = pure [(x, u)]) (rv : RelV vq u)
    (hb : ∀ env, env = envX qual scope s.heap.objs.size q (.ref c') (cloFrom X.env.cells scope.names []) → PE (lamCx X X.A.in1 s H env) body t) (hq : t (σ.set jq (some vq)) H Q) : wpAny (model X.prog X.w) X.A.in1 (call (.ref q) [u]) (EP X pins σ Q) X.xe s := by
  refine wpAny_call ?_
  refine PySem.W.kla_callFunE hr.in1.depth ho rfl hco hgen rfl hcd ?_
  rw [hbind]
  refine wpAny_pure (wpAny_newFunctionEnv hcell (fun y hy => ?_) (fun h1 hns hsb => ⟨?_, ?_⟩) ok.kind)
  · have e : y = (x, u) := by simpa using hy
    subst e
    exact hx
  · exact I.nolimit.fresh _ hsb
  · have kp : ∀ b o, s.heap.get? b = some o → h1.get? b = some o := fun b o e => hsb.extBut b o (Nat.ne_of_lt (Heap.lt_size e)) (Heap.get?_push_of_some _ e)
    generalize henv : envX qual scope s.heap.objs.size q (.ref c') (cloFrom X.env.cells scope.names []) = env
    have J := lam_start (A := X.A.in1) (tk := s.toks + 1) I ok hN hx hcell hr.hd I.ok.frames henv.symm hns kp rv
    show codeAny _ _ (.expr body (envX qual scope s.heap.objs.size q (.ref c') (cloFrom X.env.cells scope.names []))) _ _
    rw [henv]
    refine PySem.W.kla_codeExpr (wpAny_mono (hb env henv.symm [] _ _ H Q J hq) (fun v s' ⟨v', H', J', r, z⟩ => ?_) fun _ _ z => z.elim)
    exact I.after ⟨v', H', J'.os, J'.bare, J'.base, J'.hok, r, z⟩
end
end BS
set_option Elab.async false
set_option linter.all false
set_option maxRecDepth 100000
set_option maxHeartbeats 4000000
namespace BS
open PySem PySem.Spec PyProof.Rows L2
open PySem.W (CodeHd tabObj kla_obj kla_fn envX)
abbrev KeyT := Int × (Int × Int)
def keyD (x : KeyT) : D := .tup [.int x.1, zpD x.2]
abbrev ltK (x y : KeyT) : Bool := decide (x.1 < y.1 ∨ (x.1 = y.1 ∧ (x.2.1 < y.2.1 ∨ (x.2.1 = y.2.1 ∧ x.2.2 < y.2.2))))
def minAt (l : List KeyT) (k : Nat) : Nat := argBest (fun i j => ltK (l.getD i (0, 0, 0)) (l.getD j (0, 0, 0))) k
section
variable {X : Cx} {pins : List (Addr × Obj)} {σ : L2.St} {H : Hp} {s : Shared}
theorem key_heap (I : L2.Inv X pins σ H s) {A : List Addr} {v : V} {u : Value} {x : KeyT} (h : Dq X.K (hid A H) v (keyD x)) (r : RelV v u) :
    ∃ p q t t1 t2, u = .ref p ∧ IsTup s.heap p #[.int x.1 t, .ref q] ∧ IsTup s.heap q #[.int x.2.1 t1, .int x.2.2 t2] := by
  cases h with
  | tup s1 q1 =>
    cases q1 with
    | cons h1 q2 =>
      cases q2 with
      | cons h2 q3 =>
        cases q3
        cases h1
        cases r
        cases h2 with
        | tup s2 q4 =>
          have e4 := Dqs.of_ints (ns := [x.2.1, x.2.2]) q4
          rw [e4] at s2
          obtain ⟨its, rv, ht, _⟩ := I.tuple (sqT_le le_hid s1)
          obtain ⟨its2, rv2, ht2, _⟩ := I.tuple (sqT_le le_hid s2)
          obtain ⟨t1, t2, e5⟩ := Vals.int2 rv2
          rw [e5] at ht2
          cases rv with
          | cons r1 rr =>
            cases rr with
            | cons r2 rr =>
              cases rr
              obtain ⟨t, rfl⟩ := r1
              cases r2
              exact ⟨_, _, t, t1, t2, rfl, ht, ht2⟩
theorem rcO_key {A : Around} {p q p' q' : Addr} {x y : KeyT} {t t1 t2 t' t1' t2' : Tok} (h1 : IsTup s.heap p #[.int x.1 t, .ref q]) (h2 : IsTup s.heap q #[.int x.2.1 t1, .int x.2.2 t2]) (h1' : IsTup s.heap p' #[.int y.1 t', .ref q']) (h2' : IsTup s.heap q' #[.int y.2.1 t1', .int y.2.2 t2'])
    (hu : A.units + 2 < cLine) : RcO A s .Lt (.ref p) (.ref p') (ltK x y) := by
  have z := rcO_lt h1 h1' (by omega) (.cons (.int_int x.1 t y.1 t') (fun _ => rcO_int_lt x.1 t y.1 t') (.cons (eqAt_pair h2 h2' (show A.units + 1 < cLine by omega)) (fun _ => rcO_pair_lt h2 h2' (show A.units + 1 < cLine by omega)) .nil))
  have e : lexO [(x.1 == y.1, decide (x.1 < y.1)), (decide (x.2.1 = y.2.1) && decide (x.2.2 = y.2.2), decide (x.2.1 < y.2.1 ∨ (x.2.1 = y.2.1 ∧ x.2.2 < y.2.2)))] = ltK x y := by
    by_cases e1 : x.1 = y.1
    · have e2 : (x.1 == y.1) = true := by simpa using e1
      simp only [lexO, e2, if_true]
      by_cases e3 : x.2.1 = y.2.1 ∧ x.2.2 = y.2.2
      · simp [e1, e3.1, e3.2]
      · have e4 : (decide (x.2.1 = y.2.1) && decide (x.2.2 = y.2.2)) = false := by
          rw [Bool.eq_false_iff]
          intro z
          simp only [Bool.and_eq_true, decide_eq_true_eq] at z
          exact e3 z
        rw [e4, if_neg Bool.false_ne_true]
        simp [e1]
    · have e2 : (x.1 == y.1) = false := by simpa using e1
      simp only [lexO, e2, Bool.false_eq_true, if_false]
      simp [e1]
  rw [e] at z
  exact z
structure MinSt (X : Cx) (tb : Option Tb) (pins : List (Addr × Obj)) (σ : L2.St) (A : List Addr) (H1 : Hp) (I S l : Addr) (vs : List Value) (ks : List KeyT) (j best : Nat) (s : Shared) : Prop where
  ex : ∃ (H : Hp) (vb kb : Value) (kv : V) (c : Nat), L2.Inv X pins σ H s ∧ Sm tb H1 H ∧ FpOk X pins H I ∧ FpOk X pins H S ∧ s.heap.IsListIter I l (j + 1) ∧ s.heap.IsList l vs.toArray ∧ vs[best]? = some vb ∧
    s.heap.get? S = some (seqObj "list" #[vb, kb] c) ∧ RelV kv kb ∧ Dq X.K (hid A H) kv (keyD (ks.getD best (0, 0, 0)))
theorem FpOk.turn {H H' : Hp} {b : Addr} (f : FpOk X pins H b) (n : H' b = none) : FpOk X pins H' b := ⟨n, f.2⟩
theorem Inv.turnAt {h' : Heap} {t' : Nat} {it : Addr} (I : L2.Inv X pins σ H s) (f : FpOk X pins H it) (k : ∀ b o, b ≠ it → s.heap.get? b = some o → h'.get? b = some o) : L2.Inv X pins σ H { s with heap := h', toks := t' } :=
  I.turned k f.1 f.2.1 f.2.2.2.1 f.2.2.2.2.1 f.2.2.2.2.2
end
section
variable {X : Cx} {tb : Option Tb} {pins : List (Addr × Obj)} {σ : L2.St} {A : List Addr} {H1 : Hp} {I S l q : Addr} {vs : List Value} {ks : List KeyT}
theorem minLoop {R : Result → Shared → Prop} {k0 : Nat} (hr : Room k0 X.A) (hcalm : X.calm = true) (hlI : l ≠ I) (hSI : S ≠ I) (hSl : S ≠ l)
    (hl : ∀ (pins : List (Addr × Obj)) (H : Hp) (s : Shared), L2.Inv X pins σ H s → Sm tb H1 H → s.heap.IsList l vs.toArray)
    (turn : ∀ (i : Nat) (v : Value) (pins : List (Addr × Obj)) (s : Shared) (H : Hp), vs[i]? = some v → L2.Inv X pins σ H s → Sm tb H1 H → wpAny (model X.prog X.w) X.A.in1 (call (.ref q) [v]) (EP X pins σ fun kv H' => Sm tb H H' ∧ Dq X.K (hid A H') kv (keyD (ks.getD i (0, 0, 0)))) (fun _ _ => False) s)
    (hR : ∀ v (H : Hp) (s : Shared), vs[minAt ks (vs.length - 1)]? = some v → L2.Inv X pins σ H s → Sm tb H1 H → R (.ok (.ret v)) s) :
    ∀ (k j : Nat) (s : Shared), vs.length - (j + 1) = k → j + 1 ≤ vs.length → MinSt X tb pins σ A H1 I S l vs ks j (minAt ks j) s → codeAny (model X.prog X.w) X.A (.builtin "min.loop" ⟨[.ref I, .ref q, .ref S], []⟩) R s := by
  have nm : (toString "min" ++ toString ".loop" : String) = "min.loop" := by decide
  have size : vs.toArray.size = vs.length := List.size_toArray ..
  intro k
  induction k with
  | zero =>
    intro j s hk hj st
    obtain ⟨H, vb, kb, kv, c, J, sm, fI, fS, it, lst, hvb, hS, rk, dk⟩ := st.ex
    have W := Walks.list (prog := X.prog) (w := X.w) (A := X.A.in1) hr.hd I l hlI vs.toArray
    have top : j + 1 = vs.length := by omega
    refine codeAny_builtin PySem.F.entry_min_loop ?_
    rw [Around.under_plainId PySem.F.plain_min_loop _]
    show wpAny _ X.A.in1 (seqItems? (.ref S) >>= _) _ _ s
    refine wpAny_bind (wpAny_seqItems hS rfl ?_)
    show wpAny _ X.A.in1 (tryCatch (pyNext (.ref I)) _ >>= _) _ _ s
    refine wpAny_bind (wpAny_tryCatch (W.done s _ _ ⟨by rw [size, ← top]; exact it, lst⟩ fun h' tk keep => ?_))
    have J1 := Inv.turnAt (t' := tk) J fI (fun b o hb e => keep b o (by simpa using hb) e)
    have hS' := keep S _ (by simpa using hSI) hS
    have sb := Heap.SameBut.update h' S (Obj.mapSeq fun _ => (#[] : Array Value))
    have J2 := Inv.turnAt (t' := tk) J1 fS (fun b o hb e => (sb.2 b hb).trans e)
    show wpAny _ X.A.in1 (updateSeq S (fun _ => #[]) >>= _) _ _ _
    refine wpAny_bind ?_
    refine wpAny_updateSeq hS' rfl (wpAny_bind (wpAny_letGo (wpAny_pure ?_)))
    have e : vs.length - 1 = j := by omega
    exact hR vb H _ (by rw [e]; exact hvb) J2 sm
  | succ k ih =>
    intro j s hk hj st
    obtain ⟨H, vb, kb, kv, c, J, sm, fI, fS, it, lst, hvb, hS, rk, dk⟩ := st.ex
    have W := Walks.list (prog := X.prog) (w := X.w) (A := X.A.in1) hr.hd I l hlI vs.toArray
    have lt : j + 1 < vs.length := by omega
    refine codeAny_builtin PySem.F.entry_min_loop ?_
    rw [Around.under_plainId PySem.F.plain_min_loop _]
    show wpAny _ X.A.in1 (seqItems? (.ref S) >>= _) _ _ s
    refine wpAny_bind (wpAny_seqItems hS rfl ?_)
    show wpAny _ X.A.in1 (tryCatch (pyNext (.ref I)) _ >>= _) _ _ s
    refine wpAny_bind (wpAny_tryCatch (W.item (j + 1) s _ _ (by rw [size]; exact lt) ⟨it, lst⟩ fun v h' tk hP st' keep => ?_))
    have hv : vs[j + 1]? = some v := by simpa using hP
    have J1 := Inv.turnAt (t' := tk) J fI (fun b o hb e => keep b o (by simpa using hb) e)
    have hS' := keep S _ (by simpa using hSI) hS
    obtain ⟨oI, hoI, hoc, hod⟩ := st'.1
    -- the two records are pinned while the key is called
    have J2 : L2.Inv X (pins ++ pinsAt [I, S] h') σ H _ := J1.pinned (fp := [I, S]) (fun b hb => by
      rcases List.mem_cons.mp hb with e | hb
      · rw [e]; exact fI
      · rw [List.mem_singleton.mp hb]; exact fS) (fun b hb => by
      rcases List.mem_cons.mp hb with e | hb
      · subst e
        exact ⟨oI, hoI, fun z w => by rw [hod] at w; cases w⟩
      · rw [List.mem_singleton.mp hb]
        exact ⟨_, hS', fun z w => nomatch w⟩)
    show wpAny _ X.A.in1 (tryCatch (holding [v] (call (.ref q) [v])) _ >>= _) _ _ _
    refine wpAny_bind (wpAny_tryCatch (wpAny_holding (wpAny_mono (turn (j + 1) v _ _ H hv J2 sm) (fun kn s2 he => ?_) fun _ _ hF => hF.elim)))
    obtain ⟨kv2, H2, J3, r2, sm2, dk2⟩ := he
    have pI := J3.pin (I, oI) (List.mem_append_right _ (List.mem_append_right _ (mem_pinsAt (by simp) hoI)))
    have pS := J3.pin (S, _) (List.mem_append_right _ (List.mem_append_right _ (mem_pinsAt (by simp) hS')))
    have J4 : L2.Inv X pins σ H2 s2 := J3.unpinned
    have fI2 := FpOk.turn fI pI.2.1
    have fS2 := FpOk.turn fS pS.2.1
    have it2 : s2.heap.IsListIter I l (j + 1 + 1) := ⟨oI, pI.1, hoc, hod⟩
    have hS2 := pS.1
    obtain ⟨p, p2, t, t1, t2, rfl, g1, g2⟩ := key_heap J4 (dk.le sm2.le) rk
    obtain ⟨p', p2', t', t1', t2', rfl, g1', g2'⟩ := key_heap J4 dk2 r2
    show wpAny _ X.A.in1 (tryCatch (holding [v, .ref p'] (richCompare .Lt (.ref p') (.ref p) >>= _)) _ >>= _) _ _ _
    refine wpAny_bind (wpAny_tryCatch (wpAny_holding (wpAny_bind (rcO_key g1' g2' g1 g2 (by have := hr.un; show X.A.units + 1 + 2 < cLine; omega) X.prog X.w _ _ ?_))))
    refine wpAny_bind (wpAny_holding (wpAny_truthy_bool ?_))
    refine wpAny_bind (wpAny_letGo (wpAny_pure ?_))
    have un : minAt ks (j + 1) = if ltK (ks.getD (j + 1) (0, 0, 0)) (ks.getD (minAt ks j) (0, 0, 0)) = true then j + 1 else minAt ks j := rfl
    cases hb : ltK (ks.getD (j + 1) (0, 0, 0)) (ks.getD (minAt ks j) (0, 0, 0)) with
    | true =>
      rw [hb, if_pos rfl] at un
      have sb := Heap.SameBut.update s2.heap S (Obj.mapSeq fun _ => #[v, .ref p'])
      obtain ⟨c2, hc2⟩ : ∃ c2, (s2.heap.update S (Obj.mapSeq fun _ => #[v, .ref p'])).get? S = some (seqObj "list" #[v, .ref p'] c2) := ⟨_, get?_update_seq hS2 fun _ => #[v, .ref p']⟩
      simp only [if_true]
      refine wpAny_bind ?_
      refine wpAny_updateSeq hS2 rfl (wpAny_bind (wpAny_letGo ?_))
      rw [nm]
      have J5 := Inv.turnAt (t' := s2.toks) J4 fS2 (fun b o hb e => (sb.2 b hb).trans e)
      refine wpAny_pure ⟨plainId_quiet PySem.F.plain_min_loop _, ih (j + 1) _ (by omega) lt ⟨H2, v, .ref p', kv2, c2, J5, sm.trans sm2, fI2, fS2, ⟨oI, (sb.2 I hSI.symm).trans pI.1, hoc, hod⟩, hl _ _ _ J5 (sm.trans sm2), by rw [un]; exact hv, hc2, r2, by rw [un]; exact dk2⟩⟩
    | false =>
      rw [hb, if_neg Bool.false_ne_true] at un
      simp only [Bool.false_eq_true, if_false]
      refine wpAny_bind (wpAny_letGo ?_)
      rw [nm]
      exact wpAny_pure ⟨plainId_quiet PySem.F.plain_min_loop _, ih (j + 1) _ (by omega) lt ⟨H2, vb, .ref p, kv, c, J4, sm.trans sm2, fI2, fS2, it2, hl _ _ _ J4 (sm.trans sm2), by rw [un]; exact hvb, hS2, rk, by rw [un]; exact dk.le sm2.le⟩⟩
theorem minCall {Q : Value → Shared → Prop} {E : Value → Shared → Prop} {k0 : Nat} {s : Shared} (hr : Room k0 X.A) (hcalm : X.calm = true) (J : L2.Inv X pins σ H1 s) (hne : 0 < vs.length)
    (hl : ∀ (pins : List (Addr × Obj)) (H : Hp) (s : Shared), L2.Inv X pins σ H s → Sm tb H1 H → s.heap.IsList l vs.toArray)
    (turn : ∀ (i : Nat) (v : Value) (pins : List (Addr × Obj)) (s : Shared) (H : Hp), vs[i]? = some v → L2.Inv X pins σ H s → Sm tb H1 H → wpAny (model X.prog X.w) X.A.in1 (call (.ref q) [v]) (EP X pins σ fun kv H' => Sm tb H H' ∧ Dq X.K (hid A H') kv (keyD (ks.getD i (0, 0, 0)))) (fun _ _ => False) s)
    (hQ : ∀ v (H : Hp) (s : Shared), vs[minAt ks (vs.length - 1)]? = some v → L2.Inv X pins σ H s → Sm tb H1 H → Q v s) :
    wpAny (model X.prog X.w) X.A (call (.builtin "min") [.ref l] [(Str.ofString "key", .ref q)]) Q E s := by
  have nm : (toString "min" ++ toString ".loop" : String) = "min.loop" := by decide
  have hls := hl _ _ _ J .refl
  obtain ⟨ol, hol, hrest⟩ := id hls
  have hll : l < s.heap.objs.size := Heap.lt_size hol
  refine kmk_tree PySem.F.kind_min PySem.F.plain_min PySem.F.entry_min (kmk_min_key _ _) ?_
  show wpAny _ X.A.in1 (Builtin.Builtins.bindParams "min" ["key", "default"] 0 ⟨[], [(Str.ofString "key", .ref q)]⟩ >>= _) _ _ s
  refine wpAny_bind (wpAny_of_eq (show Builtin.Builtins.bindParams "min" ["key", "default"] 0 ⟨[], [(Str.ofString "key", .ref q)]⟩ = pure [some (.ref q), none] from rfl) ?_)
  refine wpAny_bind (wpAny_pure ?_)
  refine wpAny_bind (wpAny_pyIter_list hls ?_)
  refine wpAny_bind (wpAny_newList ?_ (Nat.zero_le _))
  rw [nm]
  generalize hit : ({ cls := .type "list_iterator", data := .fields #[.ref l, .int 0 0] } : Obj) = oit
  have z1 : (s.heap.push oit).objs.size = s.heap.objs.size + 1 := size_push' ..
  have aSI : (s.heap.push oit).objs.size ≠ s.heap.objs.size := by rw [z1]; exact Nat.ne_of_gt (Nat.lt_succ_self _)
  have alI : l ≠ s.heap.objs.size := Nat.ne_of_lt hll
  have aSl : (s.heap.push oit).objs.size ≠ l := by rw [z1]; exact Nat.ne_of_gt (Nat.lt_succ_of_lt hll)
  have k0' : Kept s.heap ((s.heap.push oit).push (seqObj "list" #[] 0)) := fun b o e => Heap.get?_push_of_some _ (Heap.get?_push_of_some _ e)
  have gI : ((s.heap.push oit).push (seqObj "list" #[] 0)).get? s.heap.objs.size = some oit := Heap.get?_push_of_some _ (Heap.get?_push_size _ (by rw [← hit]; rfl))
  have gS : ((s.heap.push oit).push (seqObj "list" #[] 0)).get? (s.heap.push oit).objs.size = some (seqObj "list" #[] 0) := Heap.get?_push_size _ rfl
  have fI : FpOk X pins H1 s.heap.objs.size := J.fpOk (Nat.le_refl _) (J.hok.fresh (Nat.le_refl _))
  have fS : FpOk X pins H1 (s.heap.push oit).objs.size := J.fpOk (by rw [z1]; omega) (J.hok.fresh (by rw [z1]; omega))
  have J0 : L2.Inv X pins σ H1 { s with heap := (s.heap.push oit).push (seqObj "list" #[] 0) } := J.kept (t' := s.toks) k0'
  have W := Walks.list (prog := X.prog) (w := X.w) (A := X.A.in1) hr.hd s.heap.objs.size l alI vs.toArray
  have size : vs.toArray.size = vs.length := List.size_toArray ..
  generalize hI : s.heap.objs.size = I at *
  generalize hS0 : (s.heap.push oit).objs.size = S at *
  refine wpAny_pure ⟨plainId_quiet PySem.F.plain_min_loop _, ?_⟩
  refine codeAny_builtin PySem.F.entry_min_loop ?_
  rw [Around.under_plainId PySem.F.plain_min_loop _]
  show wpAny _ X.A.in1 (seqItems? (.ref S) >>= _) _ _ _
  refine wpAny_bind (wpAny_seqItems gS rfl ?_)
  show wpAny _ X.A.in1 (tryCatch (pyNext (.ref I)) _ >>= _) _ _ _
  refine wpAny_bind (wpAny_tryCatch (W.item 0 _ _ _ (by rw [size]; exact hne) ⟨⟨_, gI, by rw [← hit], by rw [← hit]; rfl⟩, ⟨ol, k0' _ _ hol, hrest⟩⟩ fun v h' tk hP st' keep => ?_))
  have hv : vs[0]? = some v := by simpa using hP
  have J1 := Inv.turnAt (t' := tk) J0 fI (fun b o hb e => keep b o (by simpa using hb) e)
  have hS' := keep _ _ (by simpa using aSI) gS
  obtain ⟨oI, hoI, hoc, hod⟩ := st'.1
  have J2 : L2.Inv X (pins ++ pinsAt [I, S] h') σ H1 _ := J1.pinned (fp := [I, S]) (fun b hb => by
    rcases List.mem_cons.mp hb with e | hb
    · rw [e]; exact fI
    · rw [List.mem_singleton.mp hb]; exact fS) (fun b hb => by
    rcases List.mem_cons.mp hb with e | hb
    · rw [e]
      exact ⟨oI, hoI, fun z w => by rw [hod] at w; cases w⟩
    · rw [List.mem_singleton.mp hb]
      exact ⟨_, hS', fun z w => nomatch w⟩)
  show wpAny _ X.A.in1 (tryCatch (holding [v] (call (.ref q) [v])) _ >>= _) _ _ _
  refine wpAny_bind (wpAny_tryCatch (wpAny_holding (wpAny_mono (turn 0 v _ _ H1 hv J2 .refl) (fun kn s2 he => ?_) fun _ _ hF => hF.elim)))
  obtain ⟨kv2, H2, J3, r2, sm2, dk2⟩ := he
  have pI := J3.pin (I, oI) (List.mem_append_right _ (List.mem_append_right _ (mem_pinsAt (by simp) hoI)))
  have pS := J3.pin (S, _) (List.mem_append_right _ (List.mem_append_right _ (mem_pinsAt (by simp) hS')))
  have J4 : L2.Inv X pins σ H2 s2 := J3.unpinned
  have sb := Heap.SameBut.update s2.heap S (Obj.mapSeq fun _ => #[v, kn])
  obtain ⟨c2, hc2⟩ : ∃ c2, (s2.heap.update S (Obj.mapSeq fun _ => #[v, kn])).get? S = some (seqObj "list" #[v, kn] c2) := ⟨_, get?_update_seq pS.1 fun _ => #[v, kn]⟩
  have J5 := Inv.turnAt (t' := s2.toks) J4 (FpOk.turn fS pS.2.1) (fun b o hb e => (sb.2 b hb).trans e)
  show wpAny _ X.A.in1 (updateSeq S (fun _ => #[v, kn]) >>= _) _ _ _
  refine wpAny_bind ?_
  refine wpAny_updateSeq pS.1 rfl ?_
  rw [nm]
  exact wpAny_pure ⟨plainId_quiet PySem.F.plain_min_loop _, minLoop hr hcalm alI aSI aSl hl turn (fun v H s q1 q2 q3 => hQ v H s q1 q2 q3) _ 0 _ rfl hne
    ⟨H2, v, kn, kv2, c2, J5, sm2, FpOk.turn fI pI.2.1, FpOk.turn fS pS.2.1, ⟨oI, (sb.2 I aSI.symm).trans pI.1, hoc, hod⟩, hl _ _ _ J5 sm2, hv, hc2, r2, dk2⟩⟩
end
end BS
set_option Elab.async false
set_option linter.all false
set_option maxRecDepth 100000
set_option maxHeartbeats 4000000
namespace BS
open PySem PySem.Spec PyProof.Rows L2
open PySem.W (CodeHd tabObj kla_obj kla_fn envX)
def tLam (X : Cx) (b : Tb) (params : Arguments) (body : Expr) (scope : Scope) : TE := fun _ H Q => TbOk (some b) H ∧ ∀ (q c' : Addr) (pm ctv : Value) (H' : Hp), Sm (some b) H H' → H q = none →
  H' q = some (funOb q (kla_obj "<lambda>" b.qual params body scope (cloFrom X.env.cells scope.names []) pm c' ctv)) → H' c' = some (codeOb c' b.qual) → Q (.ref q) H'
section
variable {X : Cx} {b : Tb} {c : Addr} {params : Arguments} {body : Expr} {scope : Scope} {lpos : Pos} {x : Str} {jq k : Nat} {ss : Ss} {e : Expr} {zs : List (Int × Int)} {ks : List KeyT} {f : Int × Int → D} {p pos kpos : Pos}
theorem pe_lam (LB : LamB X.mg X.base c b.P) (hcode : X.env.code = .ref c) (hl : b.line = lpos.line) (hcol : b.col = lpos.col) (hq : X.env.qual ++ "<lambda>" = b.qual) (ok : BlkOk X.N X.env.scope scope [(x, jq)]) (hdef : defaultsOf params X.env = ([], [])) :
    PE X (.Lambda params body scope lpos) (tLam X b params body scope) := fun pins s σ H Q I ⟨ht, h⟩ =>
  lam_make I ht LB hcode hl hcol hq (fun y hy e => (ok.free y hy e).elim (fun k => I.ok.has _ (.inl k)) fun k => I.ok.has _ (.inr k)) hdef fun s' H' q c' pm ctv J sm hn h1 h2 => ⟨.ref q, H', J, rfl, h q c' pm ctv H' sm hn h1 h2⟩
theorem refs_of {K : PySem.W.Frag} {G : Hp} (hf : f = zpD ∨ f = zpK) : ∀ {zs : List (Int × Int)} {xs : List V}, Dqs K G xs (zs.map f) → ∃ ps : List Addr, xs = ps.map V.ref
  | [], _, h => by
    cases h
    exact ⟨[], rfl⟩
  | z :: zs, _, h => by
    cases h with
    | cons h1 h2 =>
      obtain ⟨ps, rfl⟩ := refs_of hf h2
      rcases hf with rfl | rfl
      · cases h1
        exact ⟨_ :: ps, rfl⟩
      · cases h1
        exact ⟨_ :: ps, rfl⟩
theorem refs_vals : ∀ {ps : List Addr} {us : List Value}, Vals (ps.map V.ref) us → us = ps.map Value.ref
  | [], _, h => by
    cases h
    rfl
  | p :: ps, _, h => by
    cases h with
    | cons h1 h2 =>
      rw [refs_vals h2]
      cases h1
      rfl
theorem ex_minKey (hf : f = zpD ∨ f = zpK) (hm : X.mg "min" = none) (hr : Room (k + 2) X.A) (hcalm : X.calm = true) (hxe : X.xe = fun _ _ => False) (hN : X.N.Nodup) (LB : LamB X.mg X.base c b.P) (hcode : X.env.code = .ref c) (hl : b.line = lpos.line) (hcol : b.col = lpos.col) (hq : X.env.qual ++ "<lambda>" = b.qual)
    (ok : BlkOk X.N X.env.scope scope [(x, jq)]) (hx : scope.names.lookup x = some .local) (hcell : ∀ y ∈ scope.names, y.2 ≠ .cell) (hco : scope.isCoroutine = false) (hgen : scope.isGenerator = false)
    (hbind : ∀ (u pm ctv : Value) (c' : Addr) (cl : List (Str × Addr)), bindArgs (kla_fn "<lambda>" b.qual params body scope cl pm (.ref c') ctv) ⟨[u], []⟩ = pure [(x, u)]) (h : Ex (some b) X e ss .no (.lst (zs.map f))) (hne : 0 < zs.length)
    (key : ∀ (i : Nat) (z : Int × Int) (s : Shared) (H : Hp) (L q c' : Addr), zs[i]? = some z → Ex (some b) (lamCx X X.A.in1 s H (envX b.qual scope L q (.ref c') (cloFrom X.env.cells scope.names []))) body (ss.set jq (some (f z))) .no (keyD (ks.getD i (0, 0, 0))))
    {d : D} (hd : d = f (zs.getD (minAt ks (zs.length - 1)) (0, 0)))
    (hdef : defaultsOf params X.env = ([], []) := by rfl) (hg : Gl X "min" := by rfl) (hbb : bootBuiltins "min" = some (.builtin "min") := by decide +kernel) (hs : starEach [e] X.env = [(false, eval e X.env)] := by rfl)
    (hk5 : backTo pos (starEach [e] X.env) = (false, eval e X.env) :: backTo pos (starEach [] X.env) := by rfl) (hk6 : (backTo pos (starEach [e] X.env)).any (·.1) = false := by rfl) :
    Ex (some b) X (.Call (.Name "min" p) [e] [⟨some "key", .Lambda params body scope lpos, kpos⟩] pos) ss .no d := by
  intro pins s σ H Q I ⟨A, H0, po, S, kq⟩
  obtain rfl := S.po_no
  refine wpAny_Call_Name_kw (ld_blt I hg hm hbb ?_)
  refine callWith_kw (thn (xs_one h hs pos pins s σ H _ I ⟨A, H0, [], S, fun vs H1 m z => And.intro m z⟩) fun us s1 ⟨vs, H1, I1, rv1, m1, z1⟩ => ?_) hk5 hk6 rfl rfl
  cases z1 with
  | cons z1 z2 =>
    cases z2
    cases z1 with
    | lst sl q1 =>
      rename_i l xs
      rw [Vals.ref1 rv1]
      have S1 := S.step m1
      refine thn (pk_cons (pe_lam (params := params) (body := body) LB hcode hl hcol hq ok hdef) pk_nil pos pins s1 σ H1 (fun vs2 H2 => ∃ q c' pm ctv, vs2 = [.ref q] ∧ Sm (some b) H1 H2 ∧ H2 q = some (funOb q (kla_obj "<lambda>" b.qual params body scope (cloFrom X.env.cells scope.names []) pm c' ctv)) ∧ H2 c' = some (codeOb c' b.qual)) I1 ⟨S1.tbl, fun q c' pm ctv H2 sm _ h1 h2 => ⟨q, c', pm, ctv, rfl, sm, h1, h2⟩⟩) fun qv s2 ⟨v2, H2, I2, r2, q, c', pm, ctv, ev, m2, hq2, hc2⟩ => ?_
      subst ev
      rw [Vals.ref1 r2]
      obtain ⟨ps, rfl⟩ := refs_of hf q1
      have hlen : ps.length = zs.length := by
        have := q1.length
        simpa using this
      have S2 := S1.step m2
      have q2 := q1.le m2.le
      show wpAny _ _ (call (.builtin "min") [.ref l] [(Str.ofString "key", .ref q)]) _ _ s2
      refine minCall (tb := some b) (A := A) (H1 := H2) (vs := ps.map Value.ref) (ks := ks) hr hcalm I2 (by rw [List.length_map]; omega) (fun pins' H3 s3 J sm => ?_) (fun i v pins' s3 H3 hv J sm => ?_) fun v H3 s3 hv J sm => ?_
      · have sl3 : SqL X.K H3 l (ps.map V.ref) := sqL_le le_hid (sqL_le (m2.trans sm).le sl)
        obtain ⟨its, rv, hl, _⟩ := J.list sl3
        rw [refs_vals rv] at hl
        exact hl.isList
      · obtain ⟨pi, hpi, rfl⟩ : ∃ pi, ps[i]? = some pi ∧ Value.ref pi = v := by
          rw [List.getElem?_map] at hv
          cases e4 : ps[i]? with
          | none => rw [e4] at hv; cases hv
          | some pi => rw [e4] at hv; exact ⟨pi, rfl, Option.some.inj hv⟩
        have hxi : (ps.map V.ref)[i]? = some (V.ref pi) := by rw [List.getElem?_map, hpi]; rfl
        obtain ⟨d0, e5, dz0⟩ := q2.get' hxi
        obtain ⟨z, hz, rfl⟩ : ∃ z, zs[i]? = some z ∧ f z = d0 := by
          rw [List.getElem?_map] at e5
          cases e4 : zs[i]? with
          | none => rw [e4] at e5; cases e5
          | some z => rw [e4] at e5; exact ⟨z, rfl, Option.some.inj e5⟩
        have g1 : s3.heap.get? q = some (kla_obj "<lambda>" b.qual params body scope (cloFrom X.env.cells scope.names []) pm c' ctv) := (J.hok q _ (sm.keep _ _ hq2 fun _ z => nomatch z)).1
        have g2 : s3.heap.CodeRec (.ref c') b.qual := (J.hok c' _ (sm.keep _ _ hc2 fun _ z => nomatch z)).1
        have S3 := (S2.step sm).set (i := jq) (v := V.ref pi) (dz0.le sm.le) rfl
        have run := lam_call (vq := V.ref pi) (u := .ref pi) (t := tEx X.K (some b) (ss.set jq (some (f z))) .no (keyD (ks.getD i (0, 0, 0)))) (Q := fun kv H' => Sm (some b) H3 H' ∧ Dq X.K (hid A H') kv (keyD (ks.getD i (0, 0, 0)))) J hr ok hN hx hcell hco hgen g1 g2 (hbind _ _ _ _ _) rfl
          (fun env he => by rw [he]; exact key i z s3 H3 _ _ _ hz) ⟨A, H0, [], S3, fun kv H' m z => ⟨m, z⟩⟩
        rw [hxe] at run
        exact run
      · obtain ⟨pi, hpi, rfl⟩ : ∃ pi, ps[minAt ks (zs.length - 1)]? = some pi ∧ Value.ref pi = v := by
          rw [List.getElem?_map, List.length_map, hlen] at hv
          cases e4 : ps[minAt ks (zs.length - 1)]? with
          | none => rw [e4] at hv; cases hv
          | some pi => rw [e4] at hv; exact ⟨pi, rfl, Option.some.inj hv⟩
        have hxi : (ps.map V.ref)[minAt ks (zs.length - 1)]? = some (V.ref pi) := by rw [List.getElem?_map, hpi]; rfl
        obtain ⟨d0, e5, dz0⟩ := q2.get' hxi
        refine ⟨.ref pi, H3, J, rfl, kq _ H3 ((m1.trans m2).trans sm) ?_⟩
        rw [List.getElem?_map] at e5
        cases e4 : zs[minAt ks (zs.length - 1)]? with
        | none => rw [e4] at e5; cases e5
        | some z =>
          rw [e4] at e5
          have e6 : f z = d0 := Option.some.inj e5
          have e7 : zs.getD (minAt ks (zs.length - 1)) (0, 0) = z := by simp [e4]
          rw [hd, e7, e6]
          exact dz0.le sm.le
end
end BS
set_option Elab.async false
set_option linter.all false
set_option maxRecDepth 100000
set_option maxHeartbeats 4000000
namespace BS
open PySem PySem.Spec PyProof.Rows L2
section
variable {P : Program} {w : World} {K : PySem.W.Frag} {mg : Str → Option Value} {base : Heap}
def FunC (K : PySem.W.Frag) (mg : Str → Option Value) (x : Str) (st : Stmt) (c : Addr) : Prop := ∃ (f : Addr) (oc : Value) (od : Option Addr) (kV doc pm : Value) (an : Option Addr) (ct : Value) (osl : Array (Option Value)),
  K.lookup f = some ⟨oc, od, .func (PySem.W.fnOf x x (defArgs st) (defBody st) (defScope st) .none kV doc pm an (.ref c) ct), osl⟩ ∧ PySem.W.codeIn K (.ref c) x = true ∧ PySem.W.keepIn K (.ref f) = true ∧ mg x = some (.ref f)
theorem fx_ofC {tb : Option Tb} {x : Str} {st : Stmt} {c : Addr} {N ps : List Str} {k n : Nat} {pre : List D → D → Prop} (F : FunC K mg x st c) (S : FnScope N ps (defScope st)) (hn : ps.length = n)
    (hb : ∀ (kV doc pm : Value) (an : Option Addr) (cdv ct : Value) (us : List Value), us.length = ps.length → bindArgs (PySem.W.fnOf x x (defArgs st) (defBody st) (defScope st) .none kV doc pm an cdv ct) ⟨us, []⟩ = pure (ps.zip us))
    (body : ∀ (f : Addr) (A : Around) (outer : List Env) (s : Shared) (H : Hp) (E : XK) (args : List D) (d : D), Room k (A.deeper (envOfC x (defScope st) s.heap.objs.size f (.ref c))) → args.length = n → pre args d →
      Bx tb (cxOf CX0 P w K mg base N x (defScope st) f (.ref c) A outer s H E).nox (defBody st) (args.map some ++ List.replicate (N.length - n) none) .no (.rt d)) :
    Fx P w K mg base tb x (k + 1) n pre := by
  obtain ⟨f, oc, od, kV, doc, pm, an, ct, osl, lk, hcd, kp, hm⟩ := F
  refine ⟨f, _, ps, hm, kp, .all (hb kV doc pm an (.ref c) ct), fn_of lk hcd S (fun vs H Q E h => ?_) (fun A outer s H vs Q E hr h => ?_)⟩
  · obtain ⟨A, args, d, _, _, h1, h2, _⟩ := h
    rw [h1.length, h2, hn]
  · obtain ⟨Ah, args, d, hd, ht, h1, h2, hp, q⟩ := h
    refine ⟨_, PSs.nox (body f A outer s H E args d hr h2 hp), Ah, H, [], ⟨hd, ht, .refl, (fun _ h => nomatch h), ?_, fun i d' e => ?_, rfl⟩, fun v H' m z => q v H' m z⟩
    · show (L2.start N vs).length = _
      unfold L2.start
      rw [List.length_append, List.length_append, List.length_map, List.length_map, List.length_replicate, List.length_replicate, h1.length, h2]
    · have hl := h1.length
      by_cases hi : i < args.length
      · rw [List.getElem?_append_left (by simpa using hi), List.getElem?_map] at e
        cases z : args[i]? with
        | none => rw [z] at e; cases e
        | some d2 =>
          rw [z] at e
          have e2 : d2 = d' := by simpa using e
          subst e2
          obtain ⟨v, e1, e3⟩ := h1.get z
          refine ⟨v, ?_, e3⟩
          unfold L2.start
          rw [List.getElem?_append_left (by rw [List.length_map, hl]; exact hi), List.getElem?_map, e1]
          rfl
      · rw [List.getElem?_append_right (by simpa using hi), List.getElem?_replicate] at e
        split at e <;> cases e
end
end BS
set_option Elab.async false
set_option linter.all false
set_option maxRecDepth 100000
set_option maxHeartbeats 4000000
namespace BS
open PySem PySem.Spec PyProof.Rows L2
open PySem.W (CodeHd tabObj WellAll Well ReadsW OpenSpec Codec WData)
theorem well_ints {Pm : Params} {h : Heap} : ∀ (zs : List Int) (vs : List Value), WellAll Pm h vs (zs.map PySem.W.WData.int) → Vals (zs.map V.int) vs
  | [], _, x => by
    cases x
    exact .nil
  | z :: zs, _, x => by
    obtain ⟨v, vs, rfl, x1, x2⟩ := well_cons x
    refine .cons ?_ (well_ints zs vs x2)
    cases x1
    exact ⟨_, rfl⟩
theorem dw_int {K : PySem.W.Frag} {H : Hp} : ∀ ns : List Int, DwAll K H (ns.map V.int) (ns.map PySem.W.WData.int)
  | [] => .nil
  | n :: r => .cons (.int n) (dw_int r)
def hpT (P0 : Addr) : Hp := upd (fun _ => none) P0 (.tbl #[])
theorem hpT_ne {P0 b : Addr} (n : b ≠ P0) : hpT P0 b = none := by
  show upd _ _ _ _ = _
  rw [upd_ne n]
theorem callT {P : Program} {w : World} {K : PySem.W.Frag} {mg mb : Str → Option Value} {CX : CXT} {k : Nat} {fa : Addr} {fd : FuncData} {ps : List Str} {sp : Sp} {s₁ : Shared} {vals : List Value} {zs : List Int} {R : PySem.W.WRecords} {cl : Str → Option Addr} {d0 : PySem.W.WData} {c P0 : Addr}
    (KX : K.In s₁.heap) (hns : s₁.heap.Ns mainGlobals mg) (hb : s₁.heap.Ns builtinsNs mb) (hbb : ∀ x : Str, x ≠ "__name__" → mb x = bootBuiltins x) (hlim : s₁.heap.NoLimit) (hg : s₁.gens = #[])
    (hwl : WellAll w.params s₁.heap vals (zs.map PySem.W.WData.int)) (hr : Room k callerA) (hcd : CodeHd s₁.heap c P0) (hP0 : s₁.heap.get? P0 = some (tabObj #[])) (hKP : K.lookup P0 = none)
    (hbm : ∃ bm ob, mg "__builtins__" = some (.ref bm) ∧ bm ≠ builtinsNs ∧ s₁.heap.get? bm = some ob ∧ ob.cls = .type "module" ∧ ob.dict = some builtinsNs ∧ ob.data = .plain)
    (F : ∀ base : Heap, K.In base → base.Ns mainGlobals mg → LamB mg base c P0 → FnOk P w K mg base CX k fa fd ps sp) (hbind : ∀ (s : Shared) (us : List Value), us.length = ps.length → BindsTo s fd ⟨us, []⟩ (ps.zip us)) (hlen : zs.length = ps.length)
    (hsp : ∀ (H : Hp) (xs : List V), H P0 = some (.tbl #[]) → DwAll K H xs (zs.map PySem.W.WData.int) → sp xs H (fun v H' => Dw K H' v d0) fun _ _ _ => False)
    (hCX : ∀ H e s', CX [] H s₁ (fun _ _ _ => False) e s' → False) :
    codeAny (model P w) callerA (.call (.ref fa) ⟨vals, []⟩) (fun r s' => ∃ u as, r = .ok (.ret u) ∧ ReadsW R cl s'.heap u d0 as ∧ OldK s₁.heap s'.heap ∧ s'.os = s₁.os ∧ AllBare s'.gens) s₁ := by
  have hV := well_ints zs vals hwl
  have ne_of : ∀ {b : Addr} {o : Obj}, s₁.heap.get? b = some o → o.cls ≠ .none → b ≠ P0 := fun {b o} e hc z => by
    rw [z, hP0] at e
    cases e
    exact hc rfl
  have neD : ∀ {b : Addr} {o : Obj} {es : Array DictEntry} {ep : Nat}, s₁.heap.get? b = some o → o.data = .dict es ep → b ≠ P0 := fun {b o es ep} e d z => by
    rw [z, hP0] at e
    cases e
    cases d
  have hH : hpT P0 P0 = some (.tbl #[]) := upd_same
  have hHn : ∀ b, b ≠ P0 → hpT P0 b = none := fun b n => hpT_ne n
  have hok : HOk P w (hpT P0) s₁.heap := fun b o e => by
    by_cases z : b = P0
    · subst z
      rw [hH] at e
      cases e
      exact hP0
    · rw [hHn b z] at e
      cases e
  generalize hpT P0 = H at hH hHn hok
  have base_of : ∀ {b : Addr} {o : Obj}, s₁.heap.get? b = some o → b ≠ P0 → (hidT s₁.heap H).get? b = some o := fun e n => hidT_get e (hHn _ n)
  have nsK : ∀ {b : Addr} {m : Str → Option Value}, s₁.heap.Ns b m → (hidT s₁.heap H).Ns b m := fun {b m} ⟨o, es, ep, e, d, r⟩ => ⟨o, es, ep, base_of e (neD e d), d, r⟩
  have nK : ∀ b o, K.lookup b = some o → b ≠ P0 := fun b o e z => by
    rw [z, hKP] at e
    cases e
  have hKb : K.In (hidT s₁.heap H) := fun b o e => base_of (KX b o e) (nK b o e)
  have hM : Mod K mg (hidT s₁.heap H) := ⟨hKb, nsK hns, ⟨mb, nsK hb, hbb⟩, let ⟨mc, h1, h2⟩ := hlim; ⟨mc, nsK h1, h2⟩⟩
  have hLB : LamB mg (hidT s₁.heap H) c P0 := by
    obtain ⟨o, vs, file, tf, flags, tg, inF, text, tt, e, r⟩ := hcd
    obtain ⟨bm, ob, a1, a2, a3, a4, a5⟩ := hbm
    exact ⟨⟨o, vs, file, tf, flags, tg, inF, text, tt, base_of e r.2.2.2.2.2.2.2.2, r⟩, bm, ob, a1, a2, base_of a3 (ne_of a3 (by rw [a4]; exact fun z => nomatch z)), a4, a5⟩
  have e0 : Env0 P w K mg (hidT s₁.heap H) callerA [] s₁ H := ⟨rfl, hM, fun b o e => of_hidT e, Nat.le_of_eq (hidT_size _ _), trivial, fun b hb => absurd (show b ∈ ([] : List Addr) from hb) (by simp), hok, .of_eq hg⟩
  have hl : vals.length = ps.length := by rw [← hV.length, List.length_map]; exact hlen
  refine codeAny_mono ((F _ hKb (nsK hns) hLB).run callerA [] s₁ H ⟨vals, []⟩ vals (zs.map V.int) _ _ hr e0 (hbind s₁ vals hl) hV (hsp H _ hH (dw_int zs))) fun r s' x => ?_
  cases r with
  | error e => exact (hCX H e s' x).elim
  | ok fl =>
    cases fl with
    | next => exact False.elim x
    | brk => exact False.elim x
    | cont => exact False.elim x
    | ret u =>
      obtain ⟨v, H', os, bare, un, hok', r', q⟩ := x
      have kept : ∀ b o, b ≠ P0 → s₁.heap.get? b = some o → s'.heap.get? b = some o := fun b o n e =>
        un.keep b o e (hHn b n) (by intro z; exact absurd (show b ∈ ([] : List Addr) from z) (by simp)) (by simp)
      obtain ⟨more, hm⟩ := un.tbls P0 _ hH
      have gP : s'.heap.get? P0 = some (tabObj (#[] ++ more)) := hok' P0 _ hm
      have KX' : K.In s'.heap := fun b o e => kept b o (nK b o e) (KX b o e)
      obtain ⟨as, hrd⟩ := Dw.reads (R := R) (cl := cl) hok' KX' d0 v u q r'
      refine ⟨u, as, rfl, hrd, ⟨fun b o e => ?_, fun b o e => ?_⟩, os, bare⟩
      · by_cases z : b = P0
        · subst z
          have e2 : o = tabObj #[] := Option.some.inj (e.symm.trans hP0)
          subst e2
          exact .inr (.inl ⟨(hcd.tab hP0).isCodeTable, rfl, #[], more, rfl, gP⟩)
        · exact .inl (kept b o z e)
      · by_cases z : b = P0
        · subst z
          exact ⟨_, gP⟩
        · exact ⟨o, kept b o z e⟩
theorem walkT {r : OpenSpec} {k : Nat} {q : Program} {loose : List Str} {XP : (Str → Option Value) → Heap → Prop} {YP : World → Heap → Prop} {d : DefRec} {K : Params → PySem.W.Frag} {CX : CXT} {ps : List Str} {sp : PySem.W.Frag → Addr → Sp} {x : Str} {c P0 : Addr}
    (hwell : r.wellSaid = true) (hdf : d.params.defaults = []) (hlen : r.args.length = ps.length) (hr : Room k callerA) (hints : ∀ a : Codec.denoteAll r.args, ∃ zs : List Int, Codec.encAll r.args a = zs.map PySem.W.WData.int)
    (hY : ∀ (w : World) (h : Heap), YP w h → (K w.params).In h) (hrec : ((recsOf q).find? (fun e => e.name == x)).isSome = true) (ht : ∀ w : World, PySem.W.tabIn (K w.params) x = some (c, P0)) (hKP : ∀ w : World, (K w.params).lookup P0 = none)
    (F : ∀ (w : World) (mg : Str → Option Value) (fa : Addr) (h : Heap), YP w h → (K w.params).In h → h.Ns mainGlobals mg → mg d.name = some (.ref fa) →
      ∃ fd : FuncData, (∀ (s : Shared) (us : List Value), us.length = ps.length → BindsTo s fd ⟨us, []⟩ (ps.zip us)) ∧
        ∀ base : Heap, (K w.params).In base → base.Ns mainGlobals mg → LamB mg base c P0 → FnOk r.prog w (K w.params) mg base CX k fa fd ps (sp (K w.params) P0))
    (hsp : ∀ (K : PySem.W.Frag) (P0 : Addr) (H : Hp) (xs : List V) (a : Codec.denoteAll r.args), H P0 = some (.tbl #[]) → Codec.withinAll r.args a = true → Codec.app r.args r.asked a = true → DwAll K H xs (Codec.encAll r.args a) →
      sp K P0 xs H (fun v H' => Dw K H' v (r.ret.enc (Codec.app r.args r.f a))) fun _ _ _ => False)
    (hCX : ∀ (H : Hp) (s : Shared) (e : Value) (s' : Shared), CX [] H s (fun _ _ _ => False) e s' → False) :
    PySem.W.WalkOS q loose XP YP r d [] (fun f vs => PySem.call f vs) := by
  intro w s_0 s₁ mg mb G Y fa o pm cd doc dV kV ho hd hcd hD hmg hg args vals as hpre hlay hrd hwl hlo
  obtain ⟨a, e1, e2⟩ := PySem.W.os_pre_some hpre
  obtain ⟨e3, hwi⟩ := Codec.encAll_of_decAll r.args args a e1
  subst e3
  have KX := hY w _ Y
  obtain ⟨fd, hb, hF⟩ := F w mg fa _ Y KX G.T.g hmg
  obtain ⟨zs, ez⟩ := hints a
  obtain ⟨d2, hrec⟩ := Option.isSome_iff_exists.mp hrec
  obtain ⟨t1, t2⟩ := PySem.W.tab_of G.T KX hrec (ht w)
  have hl2 : zs.length = ps.length := by
    have := encAll_len r.args a
    rw [ez, List.length_map] at this
    rw [this]
    exact hlen
  refine PySem.W.enter_call (codeAny_mono (callT (R := []) (cl := classAt s_0.heap) (d0 := r.ret.enc (Codec.app r.args r.f a)) (zs := zs) KX G.T.g G.T.b G.T.builtins G.T.nolimit hg (by rw [← ez]; exact hwl) hr t1 t2 (hKP w) G.T.bmain hF hb hl2
    (fun H xs hO hS => hsp (K w.params) _ H xs a hO hwi e2 (by rw [ez]; exact hS)) fun H e s' => hCX H s₁ e s') fun r' s' hq => ?_)
  obtain ⟨u, as', rfl, h1, h2, h3, h4⟩ := hq
  exact ⟨.inl ⟨u, _, as', rfl, fun _ => rfl, h1, (OpenSpec.post_iff hwell hwi _ _).mpr rfl, fun z => Bool.noConfusion (show false = true from z)⟩, h2, h3, h4⟩
theorem tab_is {K : PySem.W.Frag} {x : Str} {f c P0 : Addr} {oc oc2 : Value} {od od2 : Option Addr} {fd : FuncData} {osl osl2 : Array (Option Value)} {vs : Array Value} (h1 : PySem.W.nsIn K mainGlobals x = some (some (.ref f))) (h2 : K.lookup f = some ⟨oc, od, .func fd, osl⟩) (h3 : fd.code = .ref c) (h4 : K.lookup c = some ⟨oc2, od2, .fields vs, osl2⟩) (h5 : vs[11]? = some (.ref P0)) : PySem.W.tabIn K x = some (c, P0) := by
  unfold PySem.W.tabIn
  rw [h1]
  simp only [h2, h3, h4, h5]
theorem FunC.of {K : PySem.W.Frag} {mg : Str → Option Value} {h : Heap} {x : Str} {st : Stmt} {f : Addr} {fd : FuncData} {c P0 : Addr} (X : K.In h) (G : h.Ns mainGlobals mg) (F : Fun K x x st f fd) (hm : mg x = some (.ref f)) (ht : PySem.W.tabIn K x = some (c, P0)) : FunC K mg x st c := by
  obtain ⟨⟨oc, od, kV, doc, pm, an, cdv, ct, osl, rfl, l, hc⟩, k⟩ := F
  have e : cdv = .ref c := PySem.W.law_code X G ht hm (X _ _ l) rfl
  subst e
  exact ⟨f, oc, od, kV, doc, pm, an, ct, osl, l, hc, k, hm⟩
end BS
set_option Elab.async false
set_option linter.all false
set_option maxRecDepth 100000
set_option maxHeartbeats 4000000
namespace BS
open PySem PySem.Spec PyProof.Rows L2
section
variable {X : Cx} {tb : Option Tb} {ss : Ss} {e elt : Expr} {scope : Scope} {ifs : List Expr} {j : Nat} {pos : Pos} {ow : Ow} {ds : List D}
theorem pts_yes : PTs X [] (tTx X.K tb ss ow true) := fun pins s σ H Q I ⟨A, H0, po, S, q⟩ => pts_nil pins s σ H Q I (q H .refl)
theorem ex_tupOf {p1 : Pos} (hm : X.mg "tuple" = none) (h : Ex tb X e ss ow (.lst ds)) (hg : Gl X "tuple" := by rfl) (hv : bootBuiltins "tuple" = some (.type "tuple") := by decide +kernel) (hs : starEach [e] X.env = [(false, eval e X.env)] := by rfl) : Ex tb X (.Call (.Name "tuple" p1) [e] [] pos) ss ow (.tup ds) :=
  PE.imp (pe_callTy call_tuple_of hg hm hv (xs_one h hs) (he := hs)) fun σ H Q ⟨A, H0, po, S, k⟩ => ⟨A, H0, po, S, fun vs H1 m z => by
    cases z with
    | cons h1 h2 =>
      cases h2
      cases h1 with
      | lst s r =>
        refine ⟨_, _, rfl, .inl ⟨sqL_le le_hid s, fun p hp => ?_⟩⟩
        exact k _ _ (m.trans (.laid hp)) (.tup (SqT.of (hid_iff.mpr ⟨(S.step m).domP.new hp, upd_same⟩)) (r.le (le_upd hp)))⟩
theorem tlc_range {σ : L2.St} {H : Hp} {Q : VK} {n : Nat} {f : D → Option D} (hj : j < ss.length) (hlen : n < 1000000) (ht : ∀ i : Nat, i < n → LcTurn X tb scope elt ifs ss j (.int i) (f (.int i))) (hn : Ex tb X e ss .no (.int n)) (h : tEx X.K tb ss .no (.lst (((List.range n).map fun i : Nat => D.int i).filterMap f)) σ H Q) :
    tLc (iRng1 (tXs X.K tb ss .no [.int n])) (gName j) (lcT X tb scope elt ifs ss j) (lcE X tb scope elt ifs ss j) [j] σ H Q := by
  obtain ⟨A, H0, po, S, q⟩ := h
  obtain rfl := S.po_no
  refine ⟨A, H0, [], S, fun vs H1 m z => ?_⟩
  have e1 : vs = [(n : Int)].map V.int := Dqs.of_ints (ns := [(n : Int)]) z
  subst e1
  have S1 := S.step m
  refine ⟨(n : Int), rfl, by omega, by omega, fun Dl hD => ?_⟩
  rw [Int.toNat_natCast]
  have hl : ((List.range n).map fun i : Nat => D.int i).length = n := by simp
  refine lc_range (lo := 0) (n := n) (LcP X.K tb A H1 Dl ((List.range n).map fun i : Nat => D.int i) f) (lc_start S1 hD) (fun i H2 hi p => ?_) fun H2 p => ?_
  · rw [show (0 : Int) + i = i by omega]
    exact lc_turn S1 hD hj (by rw [hl]; omega) (by simp [hi]) (.int _) (ht i hi) p
  · have p' : LcP X.K tb A H1 Dl ((List.range n).map fun i : Nat => D.int i) f ((List.range n).map fun i : Nat => D.int i).length H2 := by rw [hl]; exact p
    obtain ⟨m2, z2⟩ := lc_end S1 hD p'
    exact q _ H2 (m.trans m2) z2
variable {x : Str} {p1 p2 pos2 : Pos}
theorem ex_lcR (hc : X.calm = true) (hN : X.N.Nodup) (hm : X.mg "range" = none) {n : Nat} (hl : Ex tb X e ss .no (.int n)) (ok : BlkOk X.N X.env.scope scope [(x, j)]) (f : D → Option D) (hj : j < ss.length) (hlen : n < 1000000) (ht : ∀ i : Nat, i < n → LcTurn X tb scope elt ifs ss j (.int i) (f (.int i)))
    (hi : X.N[j]? = some x := by rfl) (hx : ∀ (s : Shared) (H : Hp) (C : Addr) (cl : List (Str × Addr)) (fp : List Addr), (X.blk s H scope (compEnvC scope cl C X.env) fp).env.scope.names.lookup x = some .local := by intros; rfl) (hg : Gl X "range" := by rfl)
    (hs : ∀ x, foldedSetIterable (.Call (.Name "range" p2) [e] [] pos2) X.env x = pure x := by intro _; rfl) (hst : starEach [e] X.env = [(false, eval e X.env)] := by rfl) :
    Ex tb X (.ListComp elt [⟨.Name x p1, .Call (.Name "range" p2) [e] [] pos2, ifs, 0⟩] scope pos) ss .no (.lst (((List.range n).map fun i : Nat => D.int i).filterMap f)) :=
  PE.imp (pe_lc hc hN (pi_range1 hg hm (xs_one hl hst) hst) ok (fun s H C cl fp => pg_name (i := j) hN hi (.inl (hx s H C cl fp)) (.inr (hx s H C cl fp))) (fun s H C cl fp => lcT_ok ⟨s, H, C, cl, fp, rfl⟩) (fun s H C cl fp => lcE_ok ⟨s, H, C, cl, fp, rfl⟩) hs) fun σ H Q h => tlc_range hj hlen ht hl h
end
end BS
set_option Elab.async false
set_option linter.all false
set_option maxRecDepth 100000
set_option maxHeartbeats 4000000
namespace BS
open PySem PySem.Spec PyProof.Rows L2
def RawD (d : Addr) (es : Array DictEntry) (ep : Nat) (h : Heap) : Prop := ∃ o, h.get? d = some o ∧ o.ExactDict ∧ o.data = .dict es ep
section
variable {prog : Program} {w : World} {A : Around} {E : Value → Shared → Prop} {s : Shared} {d : Addr} {es : Array DictEntry} {ep : Nat}
theorem walks_raw (hh : A.handled = none) (I d : Addr) (hne : d ≠ I) (es : Array DictEntry) (ep : Nat) :
    Walks prog w A I [I, d] [I] es.size (fun i v => ∃ en, es[i]? = some en ∧ v = en.key) (fun i h => h.IsKeyIter I d i es.size ep ∧ RawD d es ep h) where
  sub := fun b hb => by simp at hb; simp [hb]
  frame := fun _ _ _ st hk => ⟨st.1.at fun o e => hk I (by simp) o e, let ⟨o, h1, h2⟩ := st.2; ⟨o, hk d (by simp) o h1, h2⟩⟩
  item := fun i s Q E hi st hQ => by
    obtain ⟨st1, o, h1, h2, h3⟩ := st
    obtain ⟨en, hx⟩ : ∃ en, es[i]? = some en := ⟨es[i], by simp [hi]⟩
    refine next_key_item st1 h1 h3 rfl hx fun h' hit' hs' => ?_
    exact hQ _ h' s.toks ⟨en, hx, rfl⟩ ⟨hit', o, (hs'.2 d hne).trans h1, h2, h3⟩ fun b o hb e => hs'.extBut b o (fun h => hb (by simp [h])) e
  done := fun s Q E st hQ => by
    obtain ⟨st1, o, h1, h2, h3⟩ := st
    exact next_key_end hh st1 h1 h3 rfl (by simp) fun h' he' => hQ h' s.toks fun b o hb e => he' b o (fun h => hb (by simp [h])) e
  self := fun _ _ _ _ st hQ => wpAny_pyIter_keyiter st.1 hQ
theorem kdl_raw (lo : (d == sysModules) = false) : PySem.W.KdlSrc prog w "dict" d d es.size (fun i v => ∃ en, es[i]? = some en ∧ v = en.key) (RawD d es ep) where
  type := fun _ ⟨o, h1, h2, _⟩ => ⟨o, h1, h2.1⟩
  there := fun _ ⟨o, h1, _⟩ => ⟨Heap.lt_size h1, Heap.lt_size h1⟩
  keep := fun _ _ ⟨o, h1, h2⟩ hk => ⟨o, hk d (.inl rfl) o h1, h2⟩
  notList := by decide
  notTuple := by decide
  hint := fun _ _ _ _ ⟨o, h1, h2, _⟩ hq => PySem.W.kdl_hint_dict ⟨o, h1, h2.1⟩ hq
  iter := fun _ s hh ⟨o, h1, h2, h3⟩ => ⟨_, _, (fun _ _ hq => iter_keys lo h1 h2 h3 hq), walks_raw hh _ d (Nat.ne_of_lt (Heap.lt_size h1)) es ep, ⟨⟨_, Heap.get?_push_size _ rfl, rfl, rfl⟩, o, Heap.get?_push_of_some _ h1, h2, h3⟩⟩
theorem collect_raw (lo : (d == sysModules) = false) (hh : A.handled = none) (hr : RawD d es ep s.heap) {Q : List Value → Shared → Prop} (hn : es.size ≤ sizeLine)
    (h : ∀ h' tk, (∀ b o, s.heap.get? b = some o → h'.get? b = some o) → s.heap.objs.size < h'.objs.size → Q (es.toList.map (·.key)) { s with heap := h', toks := tk }) : wpAny (model prog w) A (collect (.ref d)) Q E s := by
  obtain ⟨o, h1, h2, h3⟩ := id hr
  have hlt : d < s.heap.objs.size := Heap.lt_size h1
  have key : ∀ R : Result → Shared → Prop, (∀ h' tk acc' c', (∀ b o, b ≠ s.heap.objs.size → (s.heap.push (seqObj "list" #[] 0)).get? b = some o → h'.get? b = some o) → h'.get? s.heap.objs.size = some { cls := .type "list", dict := none, data := .seq acc' c', slots := #[] } → ItemsOf (fun i v => ∃ en, es[i]? = some en ∧ v = en.key) acc' es.size → R (.ok (.ret (.ref s.heap.objs.size))) { s with heap := h', toks := tk }) →
      codeAny (model prog w) A (.builtin "list.__iadd__" ⟨[.ref s.heap.objs.size, .ref d], []⟩) R { s with heap := s.heap.push (seqObj "list" #[] 0) } := fun R hR => by
    refine codeAny_builtin entry_list_iadd' ?_
    show wpAny _ _ (Builtin.List.listExtendWith (.ref s.heap.objs.size) (.ref d) (.ref s.heap.objs.size)) _ _ { s with heap := s.heap.push (seqObj "list" #[] 0) }
    rw [Around.under_plainId F.plain_list_iadd _]
    exact PySem.W.kdl_extend (R := R) (prog := prog) (w := w) (A := A) (s := { s with heap := s.heap.push (seqObj "list" #[] 0) }) (kdl_raw (es := es) (ep := ep) lo) hh ⟨o, Heap.get?_push_of_some _ h1, h2, h3⟩ _ (Nat.ne_of_gt hlt) (Nat.ne_of_gt hlt) _ 0 (Heap.get?_push_size _ rfl) hR hn
  unfold collect
  refine wpAny_bind (wpAny_runValue (codeAny_builtin entry_proto_collect' ?_))
  show wpAny _ _ (do again (.builtin "list.__iadd__" ⟨[← newList [], .ref d], []⟩)) _ _ s
  refine wpAny_bind (wpAny_newList (wpAny_pure ⟨Code.quiet_builtin _ (by decide +kernel), key _ fun h' tk acc' c' hk hS' hacc => ?_⟩))
  have e : acc'.toList = es.toList.map (·.key) := by
    obtain ⟨a1, a2⟩ := hacc
    apply List.ext_getElem
    · rw [List.length_map, Array.length_toList, Array.length_toList, a1]
    · intro i q1 q2
      have q3 : i < acc'.size := by rwa [Array.length_toList] at q1
      obtain ⟨en, z1, z2⟩ := a2 i acc'[i] (by simp [q3])
      rw [List.getElem_map, Array.getElem_toList, Array.getElem_toList, z2]
      have q4 : i < es.size := by omega
      rw [Array.getElem?_eq_getElem q4] at z1
      rw [Option.some.inj z1]
  show wpAny (model prog w) A (do
      let o ← load s.heap.objs.size
      match o.data with
      | .seq xs _ => pure xs.toList
      | _ => unsupported "internal:collect") Q E { s with heap := h', toks := tk }
  refine wpAny_bind (wpAny_load hS' ?_)
  show wpAny _ _ (pure acc'.toList) Q E _
  rw [e]
  exact wpAny_pure (h h' tk (fun b o e => hk b o (Nat.ne_of_lt (Heap.lt_size e)) (Heap.get?_push_of_some _ e)) (Heap.lt_size hS'))
theorem sorted_raw {shape : Nat → Bool} {fs : List Value} (lo : (d == sysModules) = false) (hh : A.handled = none) (hr : RawD d es ep s.heap) {Q : Value → Shared → Prop} (hn : es.size ≤ sizeLine)
    (ht : TupsOf s.heap shape (es.toList.map (·.key)) fs) (hk : ∀ v, v ∈ es.toList.map (·.key) → ∃ l, G.tupKeyC s.heap shape v = some l)
    (h : ∀ (st' : SortSt) (h' : Heap) (tk : Nat) (p : Addr) (n : Nat), (arrOf st').Perm (pairsOf (es.toList.map (·.key))) → SortedToK (G.tupKindC s.heap shape) (arrOf st') (pairsOf (es.toList.map (·.key))).size → (∀ b o, s.heap.get? b = some o → h'.get? b = some o) → s.heap.objs.size ≤ p →
      h'.get? p = some (seqObj "list" ((arrOf st').map (·.2)) n) → Q (.ref p) { s with heap := h', toks := tk }) :
    wpAny (model prog w) A (call (.builtin "sorted") [.ref d]) Q E s := by
  refine Calls.call_function_entry kind_sorted plain_sorted entry_sorted (args_sorted1 _) ?_
  unfold Builtin.«sorted»
  refine wpAny_bind (m := checkCount "sorted" 1 1 _) (wpAny_pure ?_)
  refine wpAny_bind (collect_raw (A := A.in1) lo hh hr hn fun h1 tk kp hsz => ?_)
  refine wpAny_bind (wpAny_newList ?_)
  have hs1 : ∀ b o, s.heap.get? b = some o → b ≠ h1.objs.size := fun b o e => Nat.ne_of_lt (Heap.lt_size (kp b o e))
  have hoL : (h1.push (seqObj "list" (es.toList.map (·.key)).toArray 0)).get? h1.objs.size = some (seqObj "list" (es.toList.map (·.key)).toArray 0) := Heap.get?_push_size _ rfl
  have k0 : G.KeepsTups s.heap (h1.push (seqObj "list" (es.toList.map (·.key)).toArray 0)) := fun b o e _ => Heap.get?_push_of_some _ (kp b o e)
  have k6 := k0.trans (G.keeps_sort6 (vs := es.toList.map (·.key)) hoL)
  have hL : (es.toList.map (·.key)).length ≤ sizeLine := by rw [List.length_map, Array.length_toList]; exact hn
  show wpAny _ _ _ _ _ { s with heap := h1.push (seqObj "list" (es.toList.map (·.key)).toArray 0), toks := tk }
  refine wpAny_bind (wpAny_holding (wpAny_call_entry slot_list_sort ⟨_, hoL, rfl⟩ entry_list_sort (G.list_sort_treeG (κ := G.tupKindC s.heap shape) (kd := tuples' true) hoL (G.tupKeys hk) ?ordG ?keyG hL fun st' a1 a2 a3 => ⟨_, rfl, ?retG⟩) (args_list_sort _)))
  case ordG => exact G.tupC_ltAt true k6
  case keyG =>
    intro h2 R hq
    exact tup_kind (by rw [G.TupsOf.length ht]; omega) (G.TupsOf.keep k6 ht) hq
  case retG =>
    obtain ⟨e, he⟩ := sortedHeap_at (out := (arrOf st').map (·.2)) hoL
    refine wpAny_pure ⟨_, rfl, h st' _ tk _ e a1 a2 (fun b o q => ?_) ?_ he⟩
    · rw [sortedHeap_old (hs1 b o q) (Heap.lt_size (Heap.get?_push_of_some _ (kp b o q)))]
      exact Heap.get?_push_of_some _ (kp b o q)
    · exact Nat.le_of_lt hsz
end
end BS
set_option Elab.async false
set_option linter.all false
set_option maxRecDepth 100000
set_option maxHeartbeats 4000000
namespace BS
open PySem PySem.Spec PyProof.Rows L2
def noTxt : Nat → Bool := fun _ => false
def addrOf : Value → Addr
  | .ref a => a
  | _ => 0
def pairAt (H : Hp) (q : Addr) : Int × Int := match H q with
  | some (.tup [.int a, .int b]) => (a, b)
  | _ => (0, 0)
abbrev leP (x y : Int × Int) : Prop := ¬ (y.1 < x.1 ∨ (y.1 = x.1 ∧ y.2 < x.2))
theorem leP_anti {x y : Int × Int} (h1 : leP x y) (h2 : leP y x) : x = y := by
  cases x
  cases y
  simp only [leP] at h1 h2
  simp only [Prod.mk.injEq]
  omega
def PairH (H : Hp) (q : Addr) : Prop := ∃ a b : Int, H q = some (.tup [.int a, .int b])
section
variable {X : Cx} {pins : List (Addr × Obj)} {σ : L2.St} {H : Hp} {s : Shared}
theorem pairH_at {q : Addr} (h : PairH H q) : H q = some (.tup [.int (pairAt H q).1, .int (pairAt H q).2]) := by
  obtain ⟨a, b, e⟩ := h
  have : pairAt H q = (a, b) := by
    unfold pairAt
    rw [e]
  rw [this]
  exact e
theorem pair_heap {q : Addr} (I : L2.Inv X pins σ H s) (h : PairH H q) : ∃ (o : Obj) (t1 t2 : Tok) (n : Nat), s.heap.get? q = some o ∧ o.cls = .type "tuple" ∧ o.data = .seq #[.int (pairAt H q).1 t1, .int (pairAt H q).2 t2] n := by
  obtain ⟨_, its, rv, ht⟩ := (show ObjOk X.prog X.w H s.heap q (.tup [.int (pairAt H q).1, .int (pairAt H q).2]) from I.hok q _ (pairH_at h))
  cases rv with
  | cons r1 r2 =>
    cases r2 with
    | cons r2 r3 =>
      cases r3
      obtain ⟨t1, rfl⟩ := r1
      obtain ⟨t2, rfl⟩ := r2
      obtain ⟨o, ho, hc, n, hd⟩ := ht
      exact ⟨o, t1, t2, n, ho, hc, hd⟩
theorem key_of_pair {q : Addr} (I : L2.Inv X pins σ H s) (h : PairH H q) : G.tupKeyC s.heap noTxt (.ref q) = some [.inl (pairAt H q).1, .inl (pairAt H q).2] := by
  obtain ⟨o, t1, t2, n, ho, hc, hd⟩ := pair_heap I h
  have h1 : G.isTupObj s.heap (.ref q) = true := by
    simp only [G.isTupObj, ho, hc]
    decide
  unfold G.tupKeyC
  rw [if_pos h1]
  simp only [tupKey, ho, hd]
  rfl
theorem tups_of (I : L2.Inv X pins σ H s) : ∀ qs : List Addr, (∀ q ∈ qs, PairH H q) → ∃ fs, TupsOf s.heap noTxt (qs.map Value.ref) fs
  | [], _ => ⟨[], .nil⟩
  | q :: qs, h => by
    obtain ⟨fs, r⟩ := tups_of I qs fun x hx => h x (List.mem_cons_of_mem _ hx)
    obtain ⟨o, t1, t2, n, ho, hc, hd⟩ := pair_heap I (h q (List.mem_cons_self ..))
    exact ⟨_ :: fs, .cons ⟨q, o, _, n, rfl, ho, hc, hd, rfl, fun _ => ⟨_, _, rfl⟩, fun z => Bool.noConfusion z⟩ r⟩
theorem map_addr : ∀ {qs : List Addr}, (qs.map Value.ref).map addrOf = qs
  | [] => rfl
  | q :: qs => by
    rw [List.map_cons, List.map_cons, map_addr]
    rfl
theorem sorted_pairs (I : L2.Inv X pins σ H s) {qs : List Addr} (hq : ∀ q ∈ qs, PairH H q) {ar : Array Keyed} (hp : ar.Perm (pairsOf (qs.map Value.ref))) (hs : SortedToK (G.tupKindC s.heap noTxt) ar (pairsOf (qs.map Value.ref)).size) :
    ∃ qs' : List Addr, (ar.map (·.2)).toList = qs'.map Value.ref ∧ qs'.Perm qs ∧ (qs'.map (pairAt H)).Pairwise leP := by
  have hp' : ar.toList.Perm ((qs.map Value.ref).zip (qs.map Value.ref)) := by
    have := Array.perm_iff_toList_perm.mp hp
    rwa [pairsOf_toList] at this
  have self : ∀ p ∈ ar.toList, p.1 = p.2 ∧ p.1 ∈ qs.map Value.ref := fun p hm => mem_zip_self (hp'.subset hm)
  have hout : (ar.map (·.2)).toList = ar.toList.map (·.2) := by simp
  have hpo : (ar.toList.map (·.2)).Perm (qs.map Value.ref) := by
    have h2 := hp'.map (fun p : Value × Value => p.2)
    rwa [List.map_snd_zip (by simp)] at h2
  refine ⟨(ar.toList.map (·.2)).map addrOf, ?_, ?_, ?_⟩
  · rw [hout]
    have all : ∀ v ∈ ar.toList.map (·.2), Value.ref (addrOf v) = v := fun v hv => by
      obtain ⟨q, _, rfl⟩ := List.mem_map.mp (hpo.subset hv)
      rfl
    rw [List.map_map]
    exact ((List.map_congr_left all).trans (List.map_id' _)).symm
  · have := hpo.map addrOf
    rwa [map_addr] at this
  · rw [List.pairwise_iff_getElem]
    intro i j hi hj hij
    have len : ar.toList.length = ar.size := Array.length_toList
    have hi' : i < ar.size := by simpa using hi
    have hj' : j < ar.size := by simpa using hj
    have sz : ar.size = (pairsOf (qs.map Value.ref)).size := hp.size_eq
    have q := hs i j (Nat.le_of_lt hij) (by omega)
    have at' : ∀ (k : Nat) (hk : k < ar.size), ∃ a, PairH H a ∧ ar[k].1 = .ref a ∧ ar[k].2 = .ref a := fun k hk => by
      obtain ⟨e1, e2⟩ := self ar[k] (by simp)
      obtain ⟨a, ha, e3⟩ := List.mem_map.mp e2
      exact ⟨a, hq a ha, e3.symm, by rw [← e1, e3]⟩
    obtain ⟨a, pa, a1, a2⟩ := at' i hi'
    obtain ⟨b, pb, b1, b2⟩ := at' j hj'
    have kk : ∀ (k : Nat) (hk : k < ar.size) (a : Addr), PairH H a → ar[k].1 = .ref a → KK (G.tupKindC s.heap noTxt) ar k = [.inl (pairAt H a).1, .inl (pairAt H a).2] := fun k hk a pa e => by
      unfold KK
      rw [Array.getElem?_eq_getElem hk]
      show (G.tupKeyC s.heap noTxt ar[k].1).getD _ = _
      rw [e, key_of_pair I pa]
      rfl
    rw [kk i hi' a pa a1, kk j hj' b pb b1] at q
    have ei : (((ar.toList.map (·.2)).map addrOf).map (pairAt H))[i] = pairAt H a := by
      simp [a2, addrOf]
    have ej : (((ar.toList.map (·.2)).map addrOf).map (pairAt H))[j] = pairAt H b := by
      simp [b2, addrOf]
    rw [ei, ej]
    have q' : lexLt itemOrd [.inl (pairAt H b).1, .inl (pairAt H b).2] [.inl (pairAt H a).1, .inl (pairAt H a).2] = false := q
    rcases lex_false.mp q' with ⟨c1, c2⟩
    have c1' : decide ((pairAt H b).1 < (pairAt H a).1) = false := c1
    have d1 := of_decide_eq_false c1'
    rintro (z | ⟨z1, z2⟩)
    · exact d1 z
    · rcases c2 with c2 | c2
      · have c2' : decide ((pairAt H a).1 < (pairAt H b).1) = true := c2
        have := of_decide_eq_true c2'
        omega
      · have c3 := (lex_false.mp c2).1
        have c3' : decide ((pairAt H b).2 < (pairAt H a).2) = false := c3
        exact (of_decide_eq_false c3') z2
end
end BS
set_option Elab.async false
set_option linter.all false
set_option maxRecDepth 100000
set_option maxHeartbeats 4000000
namespace BS
open PySem PySem.Spec PyProof.Rows L2
def putP (ks : List (Int × Int)) (k : Int × Int) : List (Int × Int) := if k ∈ ks then ks else ks ++ [k]
theorem keyE_inj {k k' : Int × Int} (h : (keyE k).1 = (keyE k').1) : k = k' := by
  cases k
  cases k'
  simp only [keyE, List.cons.injEq, Sum.inl.injEq, and_true] at h
  rw [h.1, h.2]
theorem putK_pairs (ks : List (Int × Int)) (k : Int × Int) : putK (ks.map keyE) (keyE k).1 (.bl true) = (putP ks k).map keyE := by
  unfold putK putP
  by_cases h : k ∈ ks
  · have e1 : ((ks.map keyE).any fun kv => decide (kv.1 = (keyE k).1)) = true := List.any_eq_true.mpr ⟨keyE k, List.mem_map.mpr ⟨k, h, rfl⟩, by simp⟩
    rw [if_pos e1, if_pos h, List.map_map]
    refine List.map_congr_left fun x _ => ?_
    show (if (keyE x).1 = (keyE k).1 then ((keyE x).1, V.bl true) else keyE x) = keyE x
    split <;> rfl
  · have e1 : ¬ ((ks.map keyE).any fun kv => decide (kv.1 = (keyE k).1)) = true := fun z => by
      obtain ⟨x, hx, e⟩ := List.any_eq_true.mp z
      obtain ⟨y, hy, rfl⟩ := List.mem_map.mp hx
      exact h (keyE_inj (of_decide_eq_true e) ▸ hy)
    rw [if_neg e1, if_neg h, List.map_append]
    rfl
section
variable {X : Cx} {tb : Option Tb} {ss : Ss} {e : Expr} {ks ps : List (Int × Int)} {pos : Pos} {k : Nat}
theorem Stt.newDic {K : PySem.W.Frag} {A : List Addr} {H0 H : Hp} {σ : L2.St} {i : Nat} {p : Addr} (S : Stt K tb A H0 H σ ss .no []) (hp : H p = none) (hi : i < ss.length) : Stt K tb A H0 (upd H p (.dT [])) (σ.set i (some (.ref p))) (ss.set i none) (.dic i []) [p] := by
  have S' := S.step (Sm.laid (o := .dT []) hp)
  have hn : H0 p = none := S.sm.free hp
  have l1 : Le (hid A H) (hid ([p] ++ A) (upd H p (.dT []))) := fun b u e n => by
    obtain ⟨e1, e2⟩ := hid_iff.mp e
    have bp : b ≠ p := ne_of_none e2 hp
    exact hid_iff.mpr ⟨by simp [bp, e1], by rw [upd_ne bp]; exact e2⟩
  refine ⟨S'.dom, S'.tbl, S'.sm, fun b hb => by rw [List.mem_singleton.mp hb]; exact hn, by rw [List.length_set, List.length_set]; exact S.len, fun j d' hj => ?_, ⟨p, rfl, List.getElem?_set_self (by rw [S.len]; exact hi), upd_same⟩⟩
  by_cases z : j = i
  · subst z
    rw [List.getElem?_set_self hi] at hj
    cases hj
  · rw [set_ne z] at hj ⊢
    obtain ⟨v, e1, e2⟩ := S.env j d' hj
    exact ⟨v, e1, Dq.le l1 e2⟩
theorem Stt.growDic {K : PySem.W.Frag} {A po : List Addr} {H0 H : Hp} {σ : L2.St} {i : Nat} {p : Addr} {kvs : List (List Key × V)} {ks' : List (Int × Int)} (S : Stt K tb A H0 H σ ss (.dic i ks) po) (hp : po = [p]) (h2 : σ[i]? = some (some (.ref p))) (h3 : H p = some (.dT kvs)) :
    Stt K tb A H0 (upd H p (.dT (ks'.map keyE))) σ ss (.dic i ks') po := by
  subst hp
  have e : hid ([p] ++ A) (upd H p (.dT (ks'.map keyE))) = hid ([p] ++ A) H := hid_upd (by simp)
  have n0 := S.new p (by simp)
  refine ⟨S.dom, S.tbl.write h3 noTbl_dT (fun _ z => nomatch z), ⟨fun b u e n => ?_, fun b u e => ?_, fun t => (S.sm.tb t).write h3 noTbl_dT (fun _ z => nomatch z)⟩, S.new, S.len, fun j d' hj => ?_, ⟨p, rfl, h2, upd_same⟩⟩
  · rw [upd_ne (ne_of_none e n0)]
    exact S.sm.keep b u e n
  · rw [upd_ne (ne_of_none e n0)]
    exact S.sm.dom b u e
  · rw [e]
    exact S.env j d' hj
theorem sx_ownDic (i : Nat) {x : Str} {pos pos' pos2 : Pos} (hN : X.N.Nodup) (hi : X.N[i]? = some x := by rfl) (hl : Nat.blt i ss.length = true := by rfl) (hx : Loc X.env.scope x := by first | exact Or.inl rfl | exact Or.inr rfl)
    (hs : swapsWith (.Dict [] [] pos2) (some (.Name x pos')) pos.line X.env = pure false := by rfl) (hf : X.fn x = true ∨ X.env.scope.names.lookup x = some .local := by first | exact .inl rfl | exact .inr rfl) :
    Sx tb X (.Assign [.Name x pos'] (.Dict [] [] pos2) pos) ss .no (.nx (ss.set i none) (.dic i [])) :=
  PS.imp (ps_set hN hi hx pe_dnewT hs hf) fun Z σ H ⟨A, H0, po, S, q⟩ => fun p hp => by
    obtain rfl := S.po_no
    exact q _ _ [p] (S.newDic hp (Nat.blt_eq.mp hl))
theorem sx_putDic (i : Nat) {x : Str} {p1 p2 pos : Pos} {a b : Int} (hr : Room k X.A) (h : Ex tb X e ss (.dic i ks) (.key a b)) (hl : ks.length < 16777216) (hN : X.N[i]? = some x := by rfl) (hv : Vis X.env.scope x := by first | exact Or.inl rfl | exact Or.inr (Or.inl rfl) | exact Or.inr (Or.inr rfl)) (hd : (x == ("__debug__" : Str)) = false := by decide)
    (hcd : (x == ("__classdict__" : Str)) = false := by decide) {v : Expr} (hval : Ex tb X v ss (.dic i ks) (.bl true)) (hs : swapsWith v (some (.Subscript (.Name x p1) e p2)) pos.line X.env = pure false := by rfl) :
    Sx tb X (.Assign [.Subscript (.Name x p1) e p2] v pos) ss (.dic i ks) (.nx ss (.dic i (putP ks (a, b)))) :=
  PS.imp (ps_dput (hu_of hr) (pe_var hN hv hd hcd) h hval hs) fun Z σ H ⟨A, H0, po, S, q⟩ => ⟨A, H0, po, S, fun tv H1 m1 z1 => by
    cases z1
    have S1 := S.step m1
    obtain ⟨p, h1, h2, h3⟩ := S1.own
    refine ⟨.ref p, h2, A, H0, po, S1, fun y H2 m2 z2 => ?_⟩
    cases z2 with
    | key hk =>
      have S2 := S1.step m2
      obtain ⟨p', h1', h2', h3'⟩ := S2.own
      have ep : p' = p := by
        rw [h1] at h1'
        simpa using h1'.symm
      subst ep
      refine ⟨p', _, rfl, DPut.t (k := (keyE (a, b)).1) h3' (hid_iff.mp hk).2 (by rw [List.length_map, sizeLine_eq]; exact hl), ?_⟩
      rw [putK_pairs]
      exact q _ _ po (S2.growDic h1' h2' h3')⟩
theorem cr_sortedD (hr : Room k X.A) : CallR X (.builtin "sorted") (fun vs H Q => ∃ d ks, vs = [.ref d] ∧ H d = some (.dT (ks.map keyE)) ∧ ks.length ≤ sizeLine ∧ ∀ (p : Addr) (qs : List Addr), H p = none → (∀ q ∈ qs, PairH H q) → (qs.map (pairAt H)).Perm ks → (qs.map (pairAt H)).Pairwise leP → Q (.ref p) (upd H p (.lst (qs.map V.ref)))) := by
  intro pins s σ H vs us Q I r h
  obtain ⟨d, ks, rfl, hd, hlen, q⟩ := h
  rw [Vals.ref1 r]
  obtain ⟨z, lo, xs, pr, o, es, ep, ho, hx, hdt, he, nd⟩ := (show ObjOk X.prog X.w H s.heap d (.dT (ks.map keyE)) from I.hok d _ hd)
  have hqs : ∀ {l : List (Int × Int)} {m : List (List Key × Addr × Value)}, Paired (fun (p : List Key × V) (q : List Key × Addr × Value) => p.1 = q.1 ∧ H q.2.1 = some (.tup (p.1.map kV)) ∧ RelV p.2 q.2.2) (l.map keyE) m → (∀ q ∈ m.map (·.2.1), PairH H q) ∧ (m.map (·.2.1)).map (pairAt H) = l := by
    intro l
    induction l with
    | nil =>
      intro m h
      cases h
      exact ⟨(fun _ z => nomatch z), rfl⟩
    | cons x l ih =>
      intro m h
      cases h with
      | cons h1 h2 =>
        obtain ⟨i1, i2⟩ := ih h2
        rename_i b9 _
        have e : H b9.2.1 = some (.tup [.int x.1, .int x.2]) := h1.2.1
        refine ⟨fun q hq => ?_, ?_⟩
        · rcases List.mem_cons.mp hq with rfl | hq
          · exact ⟨_, _, e⟩
          · exact i1 q hq
        · rw [List.map_cons, List.map_cons, i2]
          have : pairAt H b9.2.1 = x := by
            unfold pairAt
            rw [e]
          rw [this]
  obtain ⟨q1, q2⟩ := hqs pr
  have ek : es.toList.map (·.key) = (xs.map (·.2.1)).map Value.ref := by
    rw [he, List.map_map, List.map_map]
    rfl
  have hes : es.size ≤ sizeLine := by
    have := congrArg List.length ek
    have e2 := congrArg List.length q2
    simp only [List.length_map, Array.length_toList] at this e2
    omega
  obtain ⟨fs, ht⟩ := tups_of I _ q1
  refine sorted_raw (shape := noTxt) (fs := fs) lo hr.hd ⟨o, ho, hx, hdt⟩ hes (by rw [ek]; exact ht) (fun v hv => ?_) fun st' h' tk p n a1 a2 kp hp hl => ?_
  · rw [ek] at hv
    obtain ⟨a, ha, rfl⟩ := List.mem_map.mp hv
    exact ⟨_, key_of_pair I (q1 a ha)⟩
  · rw [ek] at a1 a2
    obtain ⟨qs', e1, e2, e3⟩ := sorted_pairs I q1 a1 a2
    have hl' : (qs'.map V.ref).length ≤ sizeLine := by
      have := e2.length_eq
      have e4 := congrArg List.length q2
      simp only [List.length_map] at this e4 ⊢
      omega
    have hv : ∀ l : List Addr, Vals (l.map V.ref) (l.map Value.ref) := fun l => by
      induction l with
      | nil => exact .nil
      | cons a l ih => exact .cons rfl ih
    refine ⟨.ref p, upd H p (.lst (qs'.map V.ref)), I.laid (a := p) (t' := tk) kp hp ⟨hl', qs'.map Value.ref, n, hv qs', ?_⟩, rfl, q p qs' (I.hok.fresh hp) (fun a ha => q1 a (e2.subset ha)) ?_ e3⟩
    · have : (qs'.map Value.ref).toArray = (arrOf st').map (·.2) := by
        rw [← e1]
      rw [this]
      exact hl
    · rw [← q2]
      exact e2.map _
theorem dqs_pairs {K : PySem.W.Frag} {A : List Addr} {H H' : Hp} (hA : DomOk A H') : ∀ qs : List Addr, (∀ q ∈ qs, PairH H q) → (∀ q xs, H q = some (.tup xs) → H' q = some (.tup xs)) → Dqs K (hid A H') (qs.map V.ref) ((qs.map (pairAt H)).map zpK)
  | [], _, _ => .nil
  | q :: qs, h, kp => by
    have e := kp _ _ (pairH_at (h q (List.mem_cons_self ..)))
    have nA : q ∉ A := fun z => by
      obtain ⟨o, e1, _, n⟩ := hA q z
      rw [e] at e1
      exact n _ (Option.some.inj e1).symm
    exact .cons (.key (hid_iff.mpr ⟨nA, e⟩)) (dqs_pairs hA qs (fun x hx => h x (List.mem_cons_of_mem _ hx)) kp)
theorem ex_sortedOwn {i : Nat} {x : Str} {p1 p2 : Pos} (hr : Room k X.A) (hm : X.mg "sorted" = none) (hl : ks.length ≤ 16777216) (hps : ps.Perm ks) (hso : ps.Pairwise leP) (hg : Gl X "sorted" := by rfl) (hN : X.N[i]? = some x := by rfl) (hbb : bootBuiltins "sorted" = some (.builtin "sorted") := by decide +kernel)
    (hv : Vis X.env.scope x := by first | exact Or.inl rfl | exact Or.inr (Or.inl rfl) | exact Or.inr (Or.inr rfl)) (hd : (x == ("__debug__" : Str)) = false := by decide)
    (hcd : (x == ("__classdict__" : Str)) = false := by decide) : Ex tb X (.Call (.Name "sorted" p1) [.Name x p2] [] pos) ss (.dic i ks) (.lst (ps.map zpK)) :=
  PE.imp (pe_callB (cr_sortedD hr) hg hm hbb (pa_cons (pe_var hN hv hd hcd) pa_nil)) fun σ H Q ⟨A, H0, po, S, q⟩ => by
    obtain ⟨p, h1, h2, h3⟩ := S.own
    refine ⟨.ref p, h2, p, ks, rfl, h3, by rw [sizeLine_eq]; exact hl, fun p' qs hp hq e1 e2 => ?_⟩
    have e : qs.map (pairAt H) = ps := (e1.trans hps.symm).eq_of_pairwise (fun a b _ _ => leP_anti) e2 hso
    have S1 := S.step (Sm.laid (o := .lst (qs.map V.ref)) hp)
    refine q _ _ (.laid hp) (.lst (SqL.of (hid_iff.mpr ⟨S.domP.new hp, upd_same⟩)) ?_)
    rw [← e]
    exact dqs_pairs S1.domP qs hq fun a xs ea => by rw [upd_ne (ne_of_none ea hp)]; exact ea
end
end BS
set_option Elab.async false
set_option linter.all false
set_option maxRecDepth 100000
set_option maxHeartbeats 4000000
namespace BS
open PySem PySem.Spec PyProof.Rows L2
section
variable {X : Cx} {tb : Option Tb} {ss : Ss} {ow : Ow} {c : Expr} {o : Out} {pos : Pos}
theorem bx_while {body sts : List Stmt} (W : Nat → Ss → Ow → Prop) (F : Ss → Ow → Prop) (hp : PassesOwn (model X.prog X.w) X.A X.env X.xe)
    (h : ∀ m ss ow, W m ss ow → ∃ k, Tx tb X c ss ow k ∧ (k = false → F ss ow) ∧ (k = true → ∃ m' ss' ow', m' < m ∧ W m' ss' ow' ∧ Bx tb X body ss ow (.nx ss' ow')))
    {m : Nat} (hW : W m ss ow) (hrest : ∀ ss ow, F ss ow → Bx tb X sts ss ow o) : Bx tb X (.While c body [] pos :: sts) ss ow o := by
  have hc : PT X c (fun σ H Q => ∃ ss ow k, Tx tb X c ss ow k ∧ tTx X.K tb ss ow k σ H Q) := fun pins s σ H Q I ⟨ss, ow, k, q1, q2⟩ => q1 pins s σ H Q I q2
  have hb : PSs X body (fun Z σ H => ∃ ss ow o, Bx tb X body ss ow o ∧ tSx X.K tb ss ow o Z σ H) := fun pins s σ H Z I ⟨ss, ow, o, q1, q2⟩ => q1 pins s σ H Z I q2
  have hr : PSs X sts (fun Z σ H => ∃ ss ow, F ss ow ∧ tSx X.K tb ss ow o Z σ H) := fun pins s σ H Z I ⟨ss, ow, f, q⟩ => hrest ss ow f pins s σ H Z I q
  refine PSs.imp (pss_cons (ps_while hp hc hb) hr) fun Z σ H ⟨A, H0, po, S, q⟩ => ?_
  refine ⟨fun m σ H => ∃ ss ow po, W m ss ow ∧ Stt X.K tb A H0 H σ ss ow po, ⟨m, ss, ow, po, hW, S⟩, ?_⟩
  rintro m σ H ⟨ss, ow, po, hW, S⟩
  obtain ⟨k, t, f, g⟩ := h m ss ow hW
  cases k with
  | false =>
    have f := f rfl
    refine ⟨ss, ow, false, t, A, H0, po, S, fun H' mm => iteF ?_⟩
    exact ⟨ss, ow, f, A, H0, po, S.step mm, q⟩
  | true =>
    obtain ⟨m', ss1, ow1, hlt, hW1, hB⟩ := g rfl
    refine ⟨ss, ow, true, t, A, H0, po, S, fun H' mm => iteT ?_⟩
    exact ⟨fun σ' H' => ∃ po', Stt X.K tb A H0 H' σ' ss1 ow1 po', fun σ' H' ⟨po', S'⟩ => ⟨m', hlt, ss1, ow1, po', hW1, S'⟩, ss, ow, _, hB, A, H0, po, S.step mm, fun σ2 H2 po2 S2 => ⟨po2, S2⟩⟩
end
end BS
set_option Elab.async false
set_option linter.all false
set_option maxRecDepth 100000
set_option maxHeartbeats 4000000
namespace BS
open PySem PySem.Spec PyProof.Rows L2 PySem.W
structure RowK where
  n : Int
  a : Int
  b : Int
  k : Int
abbrev ltRow (x y : RowK) : Bool := decide (x.n < y.n ∨ (x.n = y.n ∧ (x.a < y.a ∨ (x.a = y.a ∧ (x.b < y.b ∨ (x.b = y.b ∧ x.k < y.k))))))
def RowAt (h : Heap) (p : Addr) (x : RowK) : Prop := ∃ (q : Addr) (t u t1 t2 : Tok), IsTup h p #[.int x.n t, .ref q, .int x.k u] ∧ IsTup h q #[.int x.a t1, .int x.b t2]
section
variable {prog : Program} {w : World} {A : Around} {E : Value → Shared → Prop} {s : Shared}
theorem oneLt_pair {q q' : Addr} {x1 y1 x2 y2 : Int} {t1 t2 t3 t4 : Tok} {Q : Bool → Shared → Prop} (h1 : IsTup s.heap q #[.int x1 t1, .int y1 t2]) (h2 : IsTup s.heap q' #[.int x2 t3, .int y2 t4]) (hu : A.units < cLine) (h : Q (decide (x1 < x2 ∨ (x1 = x2 ∧ y1 < y2))) s) :
    wpAny (model prog w) A (oneLt' false (.ref q) (.ref q')) Q E s := by
  rw [oneLt'_eq]
  simp only [Bool.false_eq_true, if_false]
  exact wpAny_bind (rcO_pair_lt h1 h2 hu prog w E _ (wpAny_truthy_bool h))
theorem row_lt {p p' : Addr} {x y : RowK} {b : Bool} {Q : Bool → Shared → Prop} (h1 : RowAt s.heap p x) (h2 : RowAt s.heap p' y) (hu : A.units < cLine) (h : Q (ltRow x y) s) : wpAny (model prog w) A (keyLt' (tuples' b) (.ref p) (.ref p')) Q E s := by
  obtain ⟨q, t, u, t1, t2, ⟨o, e1, _, n, d1⟩, g⟩ := h1
  obtain ⟨q', t', u', t1', t2', ⟨o', e1', _, n', d1'⟩, g'⟩ := h2
  refine kat_lt e1 d1 e1' d1' ?_
  show KatLex prog w A b (decide (3 < 3)) Q [(.int x.n t, .int y.n t'), (.ref q, .ref q'), (.int x.k u, .int y.k u')] 0 s
  refine kat_cons (wpAny_eqBool_int ?_)
  refine kat_go (fun e => kat_yes ?_) (fun e => kat_no (oneLt_any_int ?_))
  · have en : x.n = y.n := by simpa using e
    refine kat_cons (eqAt_pair g g' hu prog w _ _ ?_)
    refine kat_go (fun e => kat_yes ?_) (fun e => kat_no ?_)
    · have ep : x.a = y.a ∧ x.b = y.b := by simpa using e
      refine kat_cons (wpAny_eqBool_int ?_)
      refine kat_go (fun e => kat_yes (kat_nil ?_)) (fun e => kat_no (oneLt_any_int ?_))
      · have ek : x.k = y.k := by simpa using e
        have : ltRow x y = decide (3 < 3) := by
          simp [ltRow, en, ep.1, ep.2, ek]
        rw [← this]
        exact h
      · have : ltRow x y = decide (x.k < y.k) := by
          simp [ltRow, en, ep.1, ep.2]
        rw [← this]
        exact h
    · have ep : ¬ (x.a = y.a ∧ x.b = y.b) := by
        intro z
        rw [decide_eq_true z.1, decide_eq_true z.2] at e
        cases e
      rw [show (b && (0 + 1 == 0)) = false by cases b <;> rfl]
      refine oneLt_pair g g' hu ?_
      have : ltRow x y = decide (x.a < y.a ∨ (x.a = y.a ∧ x.b < y.b)) := by
        refine decide_eq_decide.mpr ?_
        omega
      rw [← this]
      exact h
  · have en : ¬ x.n = y.n := by simpa using e
    have : ltRow x y = decide (x.n < y.n) := by
      refine decide_eq_decide.mpr ?_
      omega
    rw [← this]
    exact h
end
section
variable {X : Cx} {tb : Option Tb} {ss : Ss} {ow : Ow} {a b : Expr} {rest : List Expr} {pos : Pos}
theorem ex_and1 {d : D} (h : Ex tb X a ss ow d) : Ex tb X (.BoolOp .And [a] pos) ss ow d := pe_one h
theorem ex_and {k k' : Bool} (h : Ex tb X a ss ow (.bl k)) (h' : k = true → Ex tb X (.BoolOp .And (b :: rest) pos) ss ow (.bl k')) : Ex tb X (.BoolOp .And (a :: b :: rest) pos) ss ow (.bl (k && k')) := by
  cases k with
  | false =>
    refine PE.imp (pe_and h (tb := fun _ _ _ => False) fun _ _ _ _ _ _ z => z.elim) fun σ H Q ⟨A, H0, po, S, q⟩ => ⟨A, H0, po, S, fun v H' m z => ?_⟩
    cases z
    exact ⟨false, rfl, iteF (q _ H' m (.bl false))⟩
  | true =>
    refine PE.imp (pe_and h (h' rfl)) fun σ H Q ⟨A, H0, po, S, q⟩ => ⟨A, H0, po, S, fun v H' m z => ?_⟩
    cases z
    exact ⟨true, rfl, iteT ⟨A, H0, po, S.step m, fun v2 H2 m2 z2 => q v2 H2 (m.trans m2) z2⟩⟩
end
end BS
set_option Elab.async false
set_option linter.all false
set_option maxRecDepth 100000
set_option maxHeartbeats 4000000
namespace BS
open PySem PySem.Spec PyProof.Rows L2 PySem.W
def Rk (g : Nat → Int) (p : Array Nat) (i : Nat) : Int := g (p.getD i 0)
def Rises (g : Nat → Int) (p : Array Nat) (k : Nat) : Prop := ∀ i j, i ≤ j → j < k → Rk g p i ≤ Rk g p j
def Falls (g : Nat → Int) (p : Array Nat) (k : Nat) : Prop := ∀ i j, i ≤ j → j < k → Rk g p j ≤ Rk g p i
def Every (N : Nat) (p : Array Nat) : Prop := p.toList.Perm (List.range N)
section
variable {g : Nat → Int} {N : Nat} {p : Array Nat}
theorem Every.size (h : Every N p) : p.size = N := by
  have := h.length_eq
  simpa using this
theorem Every.lt {i : Nat} (h : Every N p) (hi : i < N) : p.getD i 0 < N := by
  have hs : i < p.size := by rw [h.size]; exact hi
  have e : p.getD i 0 = p[i] := by simp [Array.getD, hs]
  rw [e]
  exact List.mem_range.mp (h.subset (by simp))
theorem Every.perm {q : Array Nat} (h : Every N p) (hq : q.Perm p) : Every N q := (Array.perm_iff_toList_perm.mp hq).trans h
theorem Every.rev {i j : Nat} (h : Every N p) : Every N (kas_rev p i j) := h.perm (mirror_perm _ _ _ _)
theorem rk_of {q q' : Array Nat} {i j : Nat} (h : q[i]? = q'[j]?) : Rk g q i = Rk g q' j := by
  unfold Rk
  rw [Array.getD_eq_getD_getElem?, Array.getD_eq_getD_getElem?, h]
theorem rk_rev {i j : Nat} (hj : j ≤ p.size) (k : Nat) : Rk g (kas_rev p i j) k = if i ≤ k ∧ k < j then Rk g p (i + j - 1 - k) else Rk g p k := by
  have e := getElem?_mirror_all (i := i) hj k
  split at e
  · next z => rw [if_pos z]; exact rk_of e
  · next z => rw [if_neg z]; exact rk_of e
theorem rk_same {i j : Nat} (hj : j ≤ p.size) (h : ∀ k, i ≤ k → k < j → Rk g p k = Rk g p (j - 1)) (k : Nat) : Rk g (kas_rev p i j) k = Rk g p k := by
  rw [rk_rev hj]
  split
  · next z => rw [h k z.1 z.2, h (i + j - 1 - k) (by omega) (by omega)]
  · rfl
theorem rk_bubble {a d : Nat} (ha : a < p.size) (hd : d ≤ a) (k : Nat) : Rk g (bubble p a d) k = if k = a - d then Rk g p a else if a - d < k ∧ k ≤ a then Rk g p (k - 1) else Rk g p k := by
  have e := getElem?_bubble ha d hd k
  split at e
  · next z => rw [if_pos z]; exact rk_of e
  · next z =>
    rw [if_neg z]
    split at e
    · next y => rw [if_pos y]; exact rk_of e
    · next y => rw [if_neg y]; exact rk_of e
theorem Rises.one : Rises g p 1 := fun i j a b => by
  have : i = j := by omega
  rw [this]
  exact Int.le_refl _
theorem Rises.more {n : Nat} (h : Rises g p n) (h1 : 1 ≤ n) (z : Rk g p (n - 1) ≤ Rk g p n) : Rises g p (n + 1) := fun i j a b => by
  by_cases c : j < n
  · exact h i j a c
  · have e : j = n := by omega
    subst e
    by_cases c : i = j
    · rw [c]
      exact Int.le_refl _
    · exact Int.le_trans (h i (j - 1) (by omega) (by omega)) z
theorem Falls.more {n : Nat} (h : Falls g p n) (h1 : 1 ≤ n) (z : Rk g p n ≤ Rk g p (n - 1)) : Falls g p (n + 1) := fun i j a b => by
  by_cases c : j < n
  · exact h i j a c
  · have e : j = n := by omega
    subst e
    by_cases c : i = j
    · rw [c]
      exact Int.le_refl _
    · exact Int.le_trans z (h i (j - 1) (by omega) (by omega))
theorem Falls.same {q : Array Nat} {n : Nat} (h : Falls g p n) (e : ∀ k, Rk g q k = Rk g p k) : Falls g q n := fun i j a b => by
  rw [e, e]
  exact h i j a b
end
def Told (g : Nat → Int) (N : Nat) (cmp : Nat → Nat → (Bool → Shared → Prop) → Shared → Prop) (s : Shared) : Prop := ∀ i j C, i < N → j < N → C (decide (g i < g j)) s → cmp i j C s
section
variable {g : Nat → Int} {N : Nat} {cmp : Nat → Nat → (Bool → Shared → Prop) → Shared → Prop} {s : Shared}
theorem told_ask {α : Type} {p : Array Nat} {i j : Nat} {k : Bool → KasT α} {Q : α → Shared → Prop} (T : Told g N cmp s) (hp : Every N p) (hi : i < N) (hj : j < N) (h1 : Rk g p i < Rk g p j → (k true).kasWp cmp Q s) (h2 : Rk g p j ≤ Rk g p i → (k false).kasWp cmp Q s) :
    (KasT.ask (p.getD i 0) (p.getD j 0) k).kasWp cmp Q s := by
  refine T _ _ _ (hp.lt hi) (hp.lt hj) ?_
  by_cases z : Rk g p i < Rk g p j
  · rw [decide_eq_true (show g (p.getD i 0) < g (p.getD j 0) from z)]
    exact h1 z
  · rw [decide_eq_false (show ¬ g (p.getD i 0) < g (p.getD j 0) from z)]
    exact h2 (by omega)
theorem told_asc {p : Array Nat} {Q : Nat → Shared → Prop} (T : Told g N cmp s) (hp : Every N p) : ∀ f n, 1 ≤ n → n + f ≤ N → Rises g p n →
    (∀ m, n ≤ m → m ≤ n + f → Rises g p m → (m = n + f ∨ Rk g p m < Rk g p (m - 1)) → Q m s) → (kas_asc p f n).kasWp cmp Q s
  | 0, n, _, _, r, h => h n (Nat.le_refl _) (Nat.le_refl _) r (.inl rfl)
  | f + 1, n, h1, h2, r, h => told_ask T hp (by omega) (by omega) (fun z => h n (Nat.le_refl _) (by omega) r (.inr z)) fun z =>
      told_asc T hp f (n + 1) (by omega) (by omega) (r.more h1 z) fun m a b c d => h m (by omega) (by omega) c (by
        rcases d with d | d
        · exact .inl (by omega)
        · exact .inr d)
theorem told_desc {Q : Array Nat × Nat × Nat → Shared → Prop} (T : Told g N cmp s) : ∀ f p n q, Every N p → 1 ≤ n → n + f ≤ N → Falls g p n → q + 1 ≤ n → (∀ i, n - (q + 1) ≤ i → i < n → Rk g p i = Rk g p (n - 1)) →
    (∀ p' m q', Every N p' → n ≤ m → m ≤ n + f → Falls g p' m → q' + 1 ≤ m → (∀ i, m - (q' + 1) ≤ i → i < m → Rk g p' i = Rk g p' (m - 1)) → Q (p', m, q') s) → (kas_desc f p n q).kasWp cmp Q s
  | 0, p, n, q, hp, _, _, r, a, b, h => h p n q hp (Nat.le_refl _) (Nat.le_refl _) r a b
  | f + 1, p, n, q, hp, h1, h2, r, a, b, h => by
    have hs := hp.size
    refine told_ask T hp (by omega) (by omega) (fun z => ?_) fun z => told_ask T hp (by omega) (by omega) (fun y => h p n q hp (Nat.le_refl _) (by omega) r a b) fun y => ?_
    · show (if q > 0 then kas_desc f (kas_rev p (n - (q + 1)) n) (n + 1) 0 else kas_desc f p (n + 1) 0).kasWp cmp Q s
      have r' := r.more h1 (Int.le_of_lt z)
      split
      · exact told_desc T f _ (n + 1) 0 hp.rev (by omega) (by omega) (r'.same (rk_same (by omega) b)) (by omega) (fun i c d => by rw [show i = n + 1 - 1 by omega]) fun p' m q' e1 e2 e3 => h p' m q' e1 (by omega) (by omega)
      · exact told_desc T f p (n + 1) 0 hp (by omega) (by omega) r' (by omega) (fun i c d => by rw [show i = n + 1 - 1 by omega]) fun p' m q' e1 e2 e3 => h p' m q' e1 (by omega) (by omega)
    · refine told_desc T f p (n + 1) (q + 1) hp (by omega) (by omega) (r.more h1 y) (by omega) (fun i c d => ?_) fun p' m q' e1 e2 e3 => h p' m q' e1 (by omega) (by omega)
      have e : Rk g p n = Rk g p (n - 1) := by omega
      rw [show n + 1 - 1 = n by omega, e]
      by_cases x : i = n
      · rw [x, e]
      · exact b i (by omega) (by omega)
theorem told_tail {p : Array Nat} {n : Nat} {Q : Nat × Array Nat → Shared → Prop} (T : Told g N cmp s) (hp : Every N p) (h1 : 1 ≤ n) (h2 : n ≤ N) (r : Falls g p n) (h : ∀ m p', Every N p' → 1 ≤ m → m ≤ N → Rises g p' m → Q (m, p') s) : (kas_tail3 n N p).kasWp cmp Q s := by
  unfold kas_tail3
  rw [KasT.kasWp_bind]
  have hs := hp.size
  refine told_asc T hp.rev (N - n) n h1 (by omega) (fun i j a b => ?_) fun m a b c _ => h m _ hp.rev (by omega) (by omega) c
  rw [rk_rev (by omega), rk_rev (by omega), if_pos (by omega), if_pos (by omega)]
  exact r _ _ (by omega) (by omega)
theorem told_part {p : Array Nat} {n : Nat} {Q : Nat × Array Nat → Shared → Prop} (T : Told g N cmp s) (hp : Every N p) (h2 : n + 1 ≤ N) (r : Falls g p (n + 1)) (h : ∀ m p', Every N p' → 1 ≤ m → m ≤ N → Rises g p' m → Q (m, p') s) : (kas_descPart n N p).kasWp cmp Q s := by
  unfold kas_descPart
  rw [KasT.kasWp_bind]
  refine told_desc T _ p (n + 1) 0 hp (by omega) (by omega) r (by omega) (fun i c d => by rw [show i = n + 1 - 1 by omega]) fun p' m q' e1 e2 e3 e4 e5 e6 => ?_
  have hs := e1.size
  show (if q' > 0 then kas_tail3 m N (kas_rev p' (m - (q' + 1)) m) else kas_tail3 m N p').kasWp cmp Q s
  split
  · exact told_tail T e1.rev (by omega) (by omega) (e4.same (rk_same (by omega) e6)) h
  · exact told_tail T e1 (by omega) (by omega) e4 h
theorem told_count {p : Array Nat} {Q : Nat × Array Nat → Shared → Prop} (T : Told g N cmp s) (hp : Every N p) (h1 : 1 ≤ N) (h : ∀ m p', Every N p' → 1 ≤ m → m ≤ N → Rises g p' m → Q (m, p') s) : (kas_count N p).kasWp cmp Q s := by
  unfold kas_count
  rw [KasT.kasWp_bind]
  have hs := hp.size
  refine told_asc T hp (N - 1) 1 (Nat.le_refl _) (by omega) Rises.one fun n a b r d => ?_
  show (if (n == N) = true then _ else _ : KasT (Nat × Array Nat)).kasWp cmp Q s
  split
  · exact h n p hp a (by omega) r
  · next z =>
    have ne : n ≠ N := fun e => z (by rw [e]; exact beq_self_eq_true _)
    have lt : Rk g p n < Rk g p (n - 1) := d.resolve_left (by omega)
    split
    · refine told_ask T hp (by omega) (by omega) (fun _ => h n p hp a (by omega) r) fun y => told_part T hp.rev (by omega) ?_ h
      have eq : ∀ k, 0 ≤ k → k < n → Rk g p k = Rk g p (n - 1) := fun k _ hk => by
        have := r 0 k (by omega) hk
        have := r k (n - 1) (by omega) (by omega)
        omega
      refine Falls.same (p := p) (Falls.more (fun i j a b => ?_) a (by omega)) (rk_same (by omega) eq)
      rw [eq i (by omega) (by omega), eq j (by omega) b]
      exact Int.le_refl _
    · have e : n = 1 := by omega
      subst e
      refine told_part T hp (by omega) (Falls.more (fun i j a b => ?_) a (by omega)) h
      rw [show i = j by omega]
      exact Int.le_refl _
theorem told_place {p : Array Nat} {k : Nat} {Q : Nat → Shared → Prop} (T : Told g N cmp s) (hp : Every N p) (hk : k < N) (up : Rises g p k) (h : ∀ l, l ≤ k → (∀ i, i < l → Rk g p i ≤ Rk g p k) → (∀ i, l ≤ i → i < k → Rk g p k < Rk g p i) → Q l s) :
    ∀ f l r, l ≤ r → r ≤ k → r - l ≤ f → (∀ i, i < l → Rk g p i ≤ Rk g p k) → (∀ i, r ≤ i → i < k → Rk g p k < Rk g p i) → (kas_place p k f l r).kasWp cmp Q s
  | 0, l, r, a, b, c, d, e => h l (by omega) d fun i x y => e i (by omega) y
  | f + 1, l, r, a, b, c, d, e => by
    show (if l ≥ r then KasT.ret l else _).kasWp cmp Q s
    split
    · exact h l (by omega) d fun i x y => e i (by omega) y
    · refine told_ask T hp hk (by omega) (fun z => ?_) fun z => ?_
      · refine told_place T hp hk up h f l ((l + r) / 2) (by omega) (by omega) (by omega) d fun i x y => ?_
        have := up _ i x y
        omega
      · refine told_place T hp hk up h f ((l + r) / 2 + 1) r (by omega) b (by omega) (fun i x => ?_) e
        have := up i ((l + r) / 2) (by omega) (by omega)
        omega
theorem told_bin {Q : Array Nat → Shared → Prop} (T : Told g N cmp s) (h : ∀ p, Every N p → Rises g p N → Q p s) : ∀ f p k, Every N p → k + f = N → Rises g p k → (kas_bin f p k).kasWp cmp Q s
  | 0, p, k, hp, e, r => h p hp (by rw [← e]; exact r)
  | f + 1, p, k, hp, e, r => by
    show ((kas_place p k k 0 k).bind fun l => kas_bin f (bubble p k (k - l)) (k + 1)).kasWp cmp Q s
    rw [KasT.kasWp_bind]
    refine told_place T hp (by omega) r (fun l a b c => told_bin T h f _ (k + 1) (hp.perm (bubble_perm _ _ _)) (by omega) fun i j x y => ?_) k 0 k (by omega) (by omega) (by omega) (fun i z => by omega) fun i y z => by omega
    have hs := hp.size
    rw [rk_bubble (by omega) (by omega), rk_bubble (by omega) (by omega), show k - (k - l) = l by omega]
    have u1 := b i
    have u2 := c (j - 1)
    have u3 := b j
    have u4 := fun w => r i (j - 1) w
    have u5 := fun w => r (i - 1) (j - 1) w
    have u6 := fun w => r i j w
    split
    · split
      · exact Int.le_refl _
      · rw [if_pos (by omega)]
        exact Int.le_of_lt (u2 (by omega) (by omega))
    · split
      · rw [if_neg (by omega), if_pos (by omega)]
        exact u5 (by omega) (by omega)
      · split
        · exact u1 (by omega)
        · split
          · exact u4 (by omega) (by omega)
          · exact u6 x (by omega)
theorem told_sort {Q : Array Nat → Shared → Prop} (T : Told g N cmp s) (h1 : 1 ≤ N) (h : ∀ p, Every N p → Rises g p N → Q p s) : (kas_sort N).kasWp cmp Q s := by
  unfold kas_sort
  rw [KasT.kasWp_bind]
  refine told_count T (by show (List.range N).toArray.toList.Perm _; exact List.Perm.refl _) h1 fun m p hp a b r => ?_
  show (if m < N then kas_bin (N - max m 1) p (max m 1) else KasT.ret p).kasWp cmp Q s
  split
  · exact told_bin T h _ p _ hp (by omega) (by rw [show max m 1 = m by omega]; exact r)
  · exact h p hp (by rw [show N = m by omega]; exact r)
end
section
variable {prog : Program} {w : World} {A : Around} {E : Value → Shared → Prop} {s : Shared}
theorem getD_range (vs : List Value) : ((List.range vs.length).map fun i => vs.getD i Value.none) = vs := by
  refine List.ext_getElem (by simp) fun i h1 h2 => ?_
  simp [h2]
theorem short_sort {a : Addr} {vs : List Value} {n : Nat} {g : Nat → Int} {P : PySem.Fin → Shared → Prop} (ho : s.heap.get? a = some (seqObj "list" vs.toArray n)) (h64 : vs.length < 64)
    (hT : 2 ≤ vs.length → ∀ R : SortKind → Shared → Prop, (∀ κ, Told g vs.length (kas_ask prog w A κ vs) { s with heap := G.sortHeap6 s.heap a vs } → R κ { s with heap := G.sortHeap6 s.heap a vs }) → wpAny (model prog w) A (keyKind' vs.toArray) R E { s with heap := G.sortHeap6 s.heap a vs })
    (h : ∀ p, Every vs.length p → Rises g p vs.length → P (.done (.ret .none)) { s with heap := sortedHeap s.heap a vs (p.toList.map fun i => vs.getD i Value.none).toArray }) :
    wpAny (model prog w) A (Builtin.«list.sort» ⟨[.ref a], []⟩) P E s := by
  have line := sizeLine_eq
  have len : vs.toArray.size = vs.length := List.size_toArray ..
  obtain ⟨ep, up⟩ : ∃ ep, (s.heap.update a (Obj.mapSeq fun _ => (#[] : Array Value))).get? a = some (seqObj "list" #[] ep) := ⟨_, get?_update_seq ho fun _ => #[]⟩
  have six : (G.sortHeap6 s.heap a vs).get? a = some (seqObj "list" #[] ep) := Heap.get?_push_of_some _ (Heap.get?_push_of_some _ up)
  rw [list_sort_plain]
  refine wpAny_bind (listItems_at ho rfl (wpAny_bind (listUpdate_at ho rfl (wpAny_bind (seqEpoch_at up rfl (wpAny_bind (wpAny_newTuple (wpAny_bind (wpAny_newList (wpAny_holding ?_) (Nat.zero_le _))) (by show vs.length ≤ _; omega))))) (by omega) (Nat.zero_le _))))
  show wpAny (model prog w) A (do
      let kind ← if vs.toArray.size < 2 then pure general' else keyKind' vs.toArray
      let ((), st) ← (if vs.toArray.size < 2 then pure () else sortRuns').run (SortSt.mk' kind (vs.toArray.zip vs.toArray) #[] 7 none)
      let out := (arrOf st).map (·.2)
      let touched := (← seqEpoch a) != ep
      Builtin.List.listUpdate (.ref a) fun _ => out
      if let some e := failedOf st then rule "list.sort.comparison-raised"; throw e
      if touched then rule "list.sort.modified"; raiseError "ValueError" "list modified during sort"
      ret .none) P E { s with heap := G.sortHeap6 s.heap a vs }
  have last : ∀ (st : SortSt) (p : Array Nat), failedOf st = none → (arrOf st).map (·.2) = (p.toList.map fun i => vs.getD i Value.none).toArray → Every vs.length p → Rises g p vs.length → wpAny (model prog w) A (do
      let touched := (← seqEpoch a) != ep
      Builtin.List.listUpdate (.ref a) fun _ => (arrOf st).map (·.2)
      if let some e := failedOf st then rule "list.sort.comparison-raised"; throw e
      if touched then rule "list.sort.modified"; raiseError "ValueError" "list modified during sort"
      ret .none) P E { s with heap := G.sortHeap6 s.heap a vs } := fun st p e1 e2 e3 e4 => by
    have sz : (p.toList.map fun i => vs.getD i Value.none).toArray.size = vs.length := by rw [List.size_toArray, List.length_map, Array.length_toList, e3.size]
    refine wpAny_bind (seqEpoch_at six rfl (wpAny_bind (listUpdate_at six rfl ?_ (Nat.zero_le _) (by rw [e2]; omega))))
    rw [e1, e2]
    simp only [bne_self_eq_false, Bool.false_eq_true, if_false]
    exact wpAny_pure (h p e3 e4)
  by_cases few : vs.toArray.size < 2
  · simp only [if_pos few]
    refine wpAny_bind (wpAny_pure ?_)
    rw [StateT.run_pure]
    refine wpAny_bind (wpAny_pure (last (SortSt.mk' general' (vs.toArray.zip vs.toArray) #[] 7 none) (List.range vs.length).toArray rfl ?_ (List.Perm.refl _) fun i j x y => ?_))
    · show (vs.toArray.zip vs.toArray).map (·.2) = ((List.range vs.length).map fun i => vs.getD i Value.none).toArray
      rw [getD_range]
      apply Array.toList_inj.mp
      rw [Array.toList_map, Array.toList_zip]
      exact List.map_snd_zip (by simp)
    · rw [show i = j by omega]
      exact Int.le_refl _
  · simp only [if_neg few]
    refine wpAny_bind (hT (by omega) _ fun κ T => ?_)
    refine wpAny_bind (wpAny_mono (kat_run (ks := vs) (vs := vs) (Q := fun st s' => s' = { s with heap := G.sortHeap6 s.heap a vs } ∧ ∃ p, failedOf st = none ∧ (arrOf st).map (·.2) = (p.toList.map fun i => vs.getD i Value.none).toArray ∧ Every vs.length p ∧ Rises g p vs.length)
      (G := fun p s' => s' = { s with heap := G.sortHeap6 s.heap a vs } ∧ Every vs.length p ∧ Rises g p vs.length) rfl (by omega) h64 (fun p st s' x1 x2 x3 x4 => ⟨x4.1, p, x3, kat_snds rfl x2, x4.2⟩) (told_sort T (by omega) fun p x y => ⟨rfl, x, y⟩)) (fun r s' hr => ?_) fun _ _ e => e)
    obtain ⟨⟨⟩, st⟩ := r
    obtain ⟨rfl, p, x1, x2, x3, x4⟩ := hr
    exact last st p x1 x2 x3 x4
theorem short_sorted {l : Addr} {vs : List Value} {g : Nat → Int} {Q : Value → Shared → Prop} (hl : s.heap.IsList l vs.toArray) (h64 : vs.length < 64)
    (hT : 2 ≤ vs.length → ∀ (h' : Heap) (E : Value → Shared → Prop) (R : SortKind → Shared → Prop), G.KeepsTups s.heap h' → (∀ κ, Told g vs.length (kas_ask prog w A.in1.in1 κ vs) { s with heap := h' } → R κ { s with heap := h' }) → wpAny (model prog w) A.in1.in1 (keyKind' vs.toArray) R E { s with heap := h' })
    (h : ∀ (p : Array Nat) (h' : Heap) (q : Addr) (n : Nat), Every vs.length p → Rises g p vs.length → (∀ b o, s.heap.get? b = some o → h'.get? b = some o) → s.heap.objs.size ≤ q → h'.get? q = some (seqObj "list" (p.toList.map fun i => vs.getD i Value.none).toArray n) → Q (.ref q) { s with heap := h' }) :
    wpAny (model prog w) A (call (.builtin "sorted") [.ref l]) Q E s := by
  have line := sizeLine_eq
  refine Calls.call_function_entry kind_sorted plain_sorted entry_sorted (args_sorted1 _) ?_
  unfold Builtin.«sorted»
  refine wpAny_bind (m := checkCount "sorted" 1 1 _) (wpAny_pure (wpAny_bind (collect_list hl ?_ (by omega))))
  obtain ⟨h1, e1⟩ : ∃ h1, h1 = (s.heap.push (seqObj "list" #[] 0)).update s.heap.objs.size (Obj.mapSeq (· ++ vs.toArray)) := ⟨_, rfl⟩
  rw [← e1]
  have sz : h1.objs.size = s.heap.objs.size + 1 := by rw [e1, Heap.size_update, size_push']
  have k1 : ∀ b o, s.heap.get? b = some o → h1.get? b = some o := fun b o e => by
    rw [e1, Heap.get?_update_ne _ _ _ _ (Nat.ne_of_lt (Heap.lt_size e))]
    exact Heap.get?_push_of_some _ e
  refine wpAny_bind (wpAny_newList ?_ (by omega))
  have hL : (h1.push (seqObj "list" vs.toArray 0)).get? h1.objs.size = some (seqObj "list" vs.toArray 0) := Heap.get?_push_size _ rfl
  have k2 : ∀ b o, s.heap.get? b = some o → (h1.push (seqObj "list" vs.toArray 0)).get? b = some o := fun b o e => Heap.get?_push_of_some _ (k1 b o e)
  have k6 : G.KeepsTups s.heap (G.sortHeap6 (h1.push (seqObj "list" vs.toArray 0)) h1.objs.size vs) := fun b o e c => G.keeps_sort6 hL b o (k2 b o e) c
  show wpAny _ _ _ _ _ { s with heap := h1.push (seqObj "list" vs.toArray 0) }
  refine wpAny_bind (wpAny_holding (wpAny_call_entry slot_list_sort ⟨_, hL, rfl⟩ entry_list_sort (short_sort (g := g) hL h64 (fun two R hR => hT two _ _ R k6 hR) fun p x y => ⟨_, rfl, ?_⟩) (args_list_sort _)))
  obtain ⟨e, he⟩ := sortedHeap_at (out := (p.toList.map fun i => vs.getD i Value.none).toArray) hL
  refine wpAny_pure ⟨_, rfl, h p _ _ e x y (fun b o q => ?_) (by show s.heap.objs.size ≤ h1.objs.size; omega) he⟩
  rw [sortedHeap_old (Nat.ne_of_lt (Heap.lt_size (k1 b o q))) (Heap.lt_size (k2 b o q))]
  exact k2 b o q
end
theorem ltRow_irrefl (x : RowK) : ltRow x x = false := by
  refine decide_eq_false ?_
  omega
theorem ltRow_trans {x y z : RowK} (h1 : ltRow x y = true) (h2 : ltRow y z = true) : ltRow x z = true := by
  have := of_decide_eq_true h1
  have := of_decide_eq_true h2
  refine decide_eq_true ?_
  omega
theorem ltRow_neg {x y z : RowK} (h1 : ltRow x y = false) (h2 : ltRow z y = true) : ltRow z x = true := by
  have := of_decide_eq_false h1
  have := of_decide_eq_true h2
  refine decide_eq_true ?_
  omega
theorem ltRow_anti {x y : RowK} (h1 : ltRow x y = false) (h2 : ltRow y x = false) : x = y := by
  have h1 := of_decide_eq_false h1
  have h2 := of_decide_eq_false h2
  cases x
  cases y
  simp only at h1 h2
  simp only [RowK.mk.injEq]
  omega
def rank (l : List RowK) (x : RowK) : Int := ((l.countP fun y => ltRow y x : Nat) : Int)
theorem rank_lt {l : List RowK} {x y : RowK} (hx : x ∈ l) : decide (rank l x < rank l y) = ltRow x y := by
  cases e : ltRow x y with
  | true =>
    refine decide_eq_true ?_
    have m : ∀ k : List RowK, k.countP (fun z => ltRow z x) ≤ k.countP (fun z => ltRow z y) := fun k => List.countP_mono_left fun z _ hz => ltRow_trans hz e
    obtain ⟨l1, l2, rfl⟩ := List.append_of_mem hx
    have m1 := m l1
    have m2 := m l2
    unfold rank
    rw [List.countP_append, List.countP_append, List.countP_cons, List.countP_cons, e, ltRow_irrefl]
    simp only [if_true, Bool.false_eq_true, if_false]
    omega
  | false =>
    refine decide_eq_false ?_
    have m : l.countP (fun z => ltRow z y) ≤ l.countP (fun z => ltRow z x) := List.countP_mono_left fun z _ hz => ltRow_neg e hz
    unfold rank
    omega
def row0 : RowK := ⟨0, 0, 0, 0⟩
def RowV (h : Heap) (v : Value) (x : RowK) : Prop := ∃ q, v = .ref q ∧ RowAt h q x
theorem RowAt.keep {h h' : Heap} {q : Addr} {x : RowK} (k : G.KeepsTups h h') (r : RowAt h q x) : RowAt h' q x := by
  obtain ⟨q', t, u, t1, t2, ⟨o, e1, c, d⟩, ⟨o', e1', c', d'⟩⟩ := r
  exact ⟨q', t, u, t1, t2, ⟨o, k _ _ e1 c, c, d⟩, ⟨o', k _ _ e1' c', c', d'⟩⟩
theorem paired_get {α β : Type} {F : α → β → Prop} : ∀ {l : List α} {m : List β}, Paired F l m → ∀ {i : Nat} (a : α) (b : β), i < m.length → F (l.getD i a) (m.getD i b)
  | _, _, .nil, i, _, _, h => absurd h (Nat.not_lt_zero _)
  | _, _, .cons h _, 0, _, _, _ => h
  | _, _, .cons _ t, i + 1, a, b, h => paired_get t (i := i) a b (Nat.lt_of_succ_lt_succ h)
theorem getD_in {l : List RowK} {i : Nat} (h : i < l.length) : l.getD i row0 ∈ l := by
  rw [List.getD_eq_getElem?_getD, List.getElem?_eq_getElem h]
  exact List.getElem_mem h
section
variable {prog : Program} {w : World} {A : Around} {E : Value → Shared → Prop} {s : Shared} {vs : List Value} {rows : List RowK}
theorem rows_told {b : Bool} (hr : Paired (RowV s.heap) vs rows) (hu : A.units < cLine) : Told (fun i => rank rows (rows.getD i row0)) vs.length (kas_ask prog w A (tuples' b) vs) s := fun i j C hi hj hC => by
  have len := hr.length
  obtain ⟨q, e, h1⟩ := paired_get hr Value.none row0 (i := i) (by omega)
  obtain ⟨q', e', h2⟩ := paired_get hr Value.none row0 (i := j) (by omega)
  unfold kas_ask
  rw [e, e']
  rw [rank_lt (getD_in (by omega))] at hC
  exact row_lt h1 h2 hu hC
theorem rows_firsts {h : Heap} : ∀ {vs : List Value} {rows : List RowK}, Paired (RowV h) vs rows → ∃ fs, KatTups h vs fs ∧ fs.length = vs.length ∧ ∀ v ∈ fs, ∃ (k : Int) (t : Tok), v = .int k t
  | _, _, .nil => ⟨[], KatTups.nil, rfl, fun _ z => nomatch z⟩
  | _, _, .cons h r => by
    obtain ⟨fs, i1, i2, i3⟩ := rows_firsts r
    obtain ⟨q, rfl, q', t, u, t1, t2, ⟨o, e1, c, n, d⟩, _⟩ := h
    refine ⟨_ :: fs, KatTups.cons e1 c d rfl i1, by rw [List.length_cons, List.length_cons, i2], fun v hv => ?_⟩
    rcases List.mem_cons.mp hv with rfl | hv
    · exact ⟨_, _, rfl⟩
    · exact i3 v hv
theorem rows_kind {Q : SortKind → Shared → Prop} (hr : Paired (RowV s.heap) vs rows) (h2 : 2 ≤ vs.length) (h : Q (tuples' true) s) : wpAny (model prog w) A (keyKind' vs.toArray) Q E s := by
  obtain ⟨fs, i1, i2, i3⟩ := rows_firsts hr
  have e : (Value.type "int" != Value.type "tuple") = true := by first | rfl | decide
  refine kat_kind (T := Value.type "int") i1 (by omega) (fun v hv => ?_) rfl (by rw [e]; exact h)
  obtain ⟨k, t, rfl⟩ := i3 v hv
  exact Looks.of_pure rfl
theorem RowV.all {h h' : Heap} (k : G.KeepsTups h h') : ∀ {vs : List Value} {rows : List RowK}, Paired (RowV h) vs rows → Paired (RowV h') vs rows
  | _, _, .nil => .nil
  | _, _, .cons ⟨q, e, r⟩ t => .cons ⟨q, e, r.keep k⟩ (RowV.all k t)
theorem rows_sorted {l : Addr} {Q : Value → Shared → Prop} (hl : s.heap.IsList l vs.toArray) (h64 : vs.length < 64) (hr : Paired (RowV s.heap) vs rows) (hu : A.units + 8 < cLine)
    (h : ∀ (is : List Nat) (h' : Heap) (q : Addr) (n : Nat), is.Perm (List.range rows.length) → (is.map fun i => rows.getD i row0).Pairwise (fun x y => ltRow y x = false) → (∀ b o, s.heap.get? b = some o → h'.get? b = some o) → s.heap.objs.size ≤ q → h'.get? q = some (seqObj "list" (is.map fun i => vs.getD i Value.none).toArray n) → Q (.ref q) { s with heap := h' }) :
    wpAny (model prog w) A (call (.builtin "sorted") [.ref l]) Q E s := by
  have len := hr.length
  refine short_sorted (g := fun i => rank rows (rows.getD i row0)) hl h64 (fun two h' E R k hR => ?_) fun p h' q n e1 e2 e3 e4 e5 => h p.toList h' q n (by rw [← len]; exact e1) ?_ e3 e4 e5
  · exact rows_kind (s := { s with heap := h' }) (RowV.all k hr) two (hR _ (rows_told (s := { s with heap := h' }) (RowV.all k hr) (by show A.units + 1 + 1 < cLine; omega)))
  · have sz := e1.size
    rw [List.pairwise_iff_getElem]
    intro i j hi hj hij
    simp only [List.length_map, Array.length_toList] at hi hj
    rw [List.getElem_map, List.getElem_map]
    have rk := e2 i j (Nat.le_of_lt hij) (by omega)
    have e : ∀ (k : Nat) (hk : k < p.size), p.getD k 0 = p[k] := fun k hk => by simp [Array.getD, hk]
    have lt := e1.lt (i := j) (by omega)
    unfold Rk at rk
    rw [e j hj] at lt
    rw [e i hi, e j hj] at rk
    show ltRow (rows.getD p[j] row0) (rows.getD p[i] row0) = false
    have rk' : rank rows (rows.getD p[i] row0) ≤ rank rows (rows.getD p[j] row0) := rk
    rw [← rank_lt (getD_in (by omega))]
    refine decide_eq_false ?_
    omega
end
def rowK (x : RowK) : D := .tup [.int x.n, .tup [.int x.a, .int x.b], .int x.k]
section
variable {X : Cx} {tb : Option Tb} {ss : Ss} {pos : Pos} {k : Nat} {pins : List (Addr × Obj)} {σ : L2.St} {H : Hp} {s : Shared}
theorem row_heap (I : L2.Inv X pins σ H s) {B : List Addr} {v : V} {u : Value} {x : RowK} (h : Dq X.K (hid B H) v (rowK x)) (r : RelV v u) : RowV s.heap u x := by
  cases h with
  | tup s1 q1 =>
    cases q1 with
    | cons h1 q2 =>
      cases q2 with
      | cons h2 q3 =>
        cases q3 with
        | cons h3 q5 =>
          cases q5
          cases h1
          cases h3
          cases r
          cases h2 with
          | tup s2 q4 =>
            have e4 := Dqs.of_ints (ns := [x.a, x.b]) q4
            rw [e4] at s2
            obtain ⟨its, rv, ht, _⟩ := I.tuple (sqT_le le_hid s1)
            obtain ⟨its2, rv2, ht2, _⟩ := I.tuple (sqT_le le_hid s2)
            obtain ⟨t1, t2, e5⟩ := Vals.int2 rv2
            rw [e5] at ht2
            cases rv with
            | cons r1 rr =>
              cases rr with
              | cons r2 rr =>
                cases rr with
                | cons r3 rr =>
                  cases rr
                  obtain ⟨t, rfl⟩ := r1
                  obtain ⟨u, rfl⟩ := r3
                  cases r2
                  exact ⟨_, rfl, _, t, u, t1, t2, ht, ht2⟩
theorem rows_heap (I : L2.Inv X pins σ H s) {B : List Addr} : ∀ {xs : List V} {us : List Value} {rows : List RowK}, Dqs X.K (hid B H) xs (rows.map rowK) → Vals xs us → Paired (RowV s.heap) us rows
  | [], _, [], _, .nil => .nil
  | [], _, _ :: _, h, _ => nomatch h
  | _ :: _, _, [], h, _ => nomatch h
  | x :: xs, _, y :: rows, .cons h t, .cons r q => .cons (row_heap I h r) (rows_heap I t q)
theorem cr_sortedRows (hr : Room k X.A) : CallR X (.builtin "sorted") (fun vs H Q => ∃ (l : Addr) (xs : List V) (rows : List RowK) (B : List Addr), vs = [.ref l] ∧ H l = some (.lst xs) ∧ xs.length < 64 ∧ Dqs X.K (hid B H) xs (rows.map rowK) ∧
    ∀ (p : Addr) (is : List Nat), H p = none → is.Perm (List.range rows.length) → (is.map fun i => rows.getD i row0).Pairwise (fun x y => ltRow y x = false) → Q (.ref p) (upd H p (.lst (is.map fun i => xs.getD i .non)))) := by
  intro pins s σ H vs us Q I r h
  obtain ⟨l, xs, rows, B, rfl, hl, h64, hd, q⟩ := h
  rw [Vals.ref1 r]
  obtain ⟨z, its, n, rv, e⟩ := (show ObjOk X.prog X.w H s.heap l (.lst xs) from I.hok l _ hl)
  have len := Vals.length rv
  have dl := hd.length
  rw [List.length_map] at dl
  refine rows_sorted (rows := rows) ⟨_, e, rfl, n, rfl⟩ (by omega) (rows_heap I hd rv) (by have := hr.un; omega) fun is h' p n' a1 a2 kp hp he => ?_
  have lt : ∀ i ∈ is, i < xs.length := fun i hi => by
    have := List.mem_range.mp (a1.subset hi)
    omega
  have vals : ∀ js : List Nat, (∀ i ∈ js, i < xs.length) → Vals (js.map fun i => xs.getD i .non) (js.map fun i => its.getD i Value.none) := fun js => by
    induction js with
    | nil => exact fun _ => .nil
    | cons j js ih => exact fun hj => .cons (paired_get rv _ _ (by have := hj j (List.mem_cons_self ..); omega)) (ih fun i hi => hj i (List.mem_cons_of_mem _ hi))
  have ll : (is.map fun i => xs.getD i V.non).length ≤ sizeLine := by
    have := a1.length_eq
    rw [List.length_map, sizeLine_eq]
    rw [List.length_range] at this
    omega
  exact ⟨.ref p, upd H p (.lst (is.map fun i => xs.getD i .non)), I.laid (a := p) (t' := s.toks) kp hp ⟨ll, _, n', vals is lt, he⟩, rfl, q p is (I.hok.fresh hp) a1 a2⟩
theorem dqs_pick {K : PySem.W.Frag} {G : Hp} {xs : List V} {rows : List RowK} (h : Dqs K G xs (rows.map rowK)) : ∀ js : List Nat, (∀ i ∈ js, i < rows.length) → Dqs K G (js.map fun i => xs.getD i .non) ((js.map fun i => rows.getD i row0).map rowK)
  | [], _ => .nil
  | j :: js, hj => by
    have lj := hj j (List.mem_cons_self ..)
    obtain ⟨v, e1, e2⟩ := h.get (i := j) (d := rowK (rows.getD j row0)) (by rw [List.getElem?_map, List.getD_eq_getElem?_getD, List.getElem?_eq_getElem lj]; rfl)
    refine .cons ?_ (dqs_pick h js fun i hi => hj i (List.mem_cons_of_mem _ hi))
    show Dq K G (xs.getD j .non) (rowK (rows.getD j row0))
    rw [List.getD_eq_getElem?_getD, e1]
    exact e2
theorem rows_range (rows : List RowK) : ((List.range rows.length).map fun i => rows.getD i row0) = rows := by
  refine List.ext_getElem (by simp) fun i h1 h2 => ?_
  simp [h2]
theorem ex_sortedK {i : Nat} {x : Str} {p1 p2 : Pos} {L rs : List RowK} (hr : Room k X.A) (hm : X.mg "sorted" = none) (hl : rs.length < 64) (hp : L.Perm rs) (so : L.Pairwise fun x y => ltRow y x = false) (hg : Gl X "sorted" := by rfl) (hN : X.N[i]? = some x := by rfl) (hbb : bootBuiltins "sorted" = some (.builtin "sorted") := by decide +kernel)
    (hv : Vis X.env.scope x := by first | exact Or.inl rfl | exact Or.inr (Or.inl rfl) | exact Or.inr (Or.inr rfl)) (hd : (x == ("__debug__" : Str)) = false := by decide)
    (hcd : (x == ("__classdict__" : Str)) = false := by decide) : Ex tb X (.Call (.Name "sorted" p1) [.Name x p2] [] pos) ss (.lst i (rs.map rowK)) (.lst (L.map rowK)) :=
  PE.imp (pe_callB (cr_sortedRows hr) hg hm hbb (pa_cons (pe_var hN hv hd hcd) pa_nil)) fun σ H Q ⟨A, H0, po, S, q⟩ => by
    obtain ⟨p, xs, h1, h2, h3, h4⟩ := S.own
    have dl := h4.length
    rw [List.length_map] at dl
    refine ⟨.ref p, h2, p, xs, rs, _, rfl, h3, by omega, h4, fun p' is hn e1 e2 => ?_⟩
    have e : (is.map fun i => rs.getD i row0) = L := ((e1.map _).trans (by rw [rows_range]; exact hp.symm)).eq_of_pairwise (fun a b _ _ x y => ltRow_anti y x) e2 so
    refine q _ _ (.laid hn) (.lst (SqL.of (hid_iff.mpr ⟨S.domP.new hn, upd_same⟩)) ?_)
    rw [← e]
    exact (dqs_pick h4 is fun i hi => List.mem_range.mp (e1.subset hi)).le (le_upd hn)
end
end BS
set_option Elab.async false
set_option linter.all false
set_option maxRecDepth 100000
set_option maxHeartbeats 4000000
namespace BS
open PySem PySem.Spec PyProof.Rows L2 PySem.W
section
variable {X : Cx} {tb : Option Tb} {ss : Ss} {elt iter : Expr} {ifs : List Expr} {scope : Scope} {pos spos py p1 : Pos} {ds : List D} {x y : Str}
theorem sx_setLc (i j : Nat) (hc : X.calm = true) (hN : X.N.Nodup) (hl : Ex tb X iter ss .no (.lst ds)) (ok : BlkOk X.N X.env.scope scope [(x, j)]) (f : D → Option D) (hj : j < ss.length) (hlen : ds.length < 16777216) (ht : ∀ d ∈ ds, LcTurn X tb scope elt ifs ss j d (f d))
    (hy : X.N[i]? = some y := by rfl) (hyl : X.env.scope.names.lookup y = some .local := by rfl) (hk : X.env.scope.kind = .function := by rfl) (hln : (py.line == pos.line) = true := by rfl) (ha : (scope.names.any fun (n, k) => n == y && (k == .local || k == .cell)) = false := by rfl)
    (hi : X.N[j]? = some x := by rfl) (hx : ∀ (s : Shared) (H : Hp) (C : Addr) (cl : List (Str × Addr)) (fp : List Addr), (X.blk s H scope (compEnvC scope cl C X.env) fp).env.scope.names.lookup x = some .local := by intros; rfl) (hs : ∀ x, foldedSetIterable iter X.env x = pure x := by intro _; rfl) :
    Sx tb X (.Assign [.Name y py] (.ListComp elt [⟨.Name x p1, iter, ifs, 0⟩] scope pos) spos) ss .no (.nx (ss.set i (some (.lst (ds.filterMap f)))) .no) :=
  PS.imp (ps_setLc hc hN hy hyl (sw_true hk hyl hln ha) (pi_list hl) ok (fun s H C cl fp => pg_name (i := j) hN hi (.inl (hx s H C cl fp)) (.inr (hx s H C cl fp))) (fun s H C cl fp => lcT_ok ⟨s, H, C, cl, fp, rfl⟩) (fun s H C cl fp => lcE_ok ⟨s, H, C, cl, fp, rfl⟩) hs)
    fun Z σ H ⟨A, H0, po, S, q⟩ => tlc_list hj hlen ht ⟨A, H0, po, S, fun v H' m z => q _ _ po ((S.step m).set z rfl)⟩
end
end BS
set_option Elab.async false
set_option linter.all false
set_option maxRecDepth 100000
set_option maxHeartbeats 4000000
namespace Pg
open PySem PySem.Spec PyProof.Rows L2 BS
open Rg (Zw Ring)
def tOf (r : Int) : Int := ([0, 0, 1, 1, 1] : List Int).getD r.toNat 0
def cOf (r : Int) : Int := ([1, 2, 1, 2, 3] : List Int).getD r.toNat 0
def uOf (r : Int) : Int := ([4, 2, 6, 2, 2] : List Int).getD r.toNat 0
def eOf (r : Int) : Int := ([4, 8, 3, 7, 11] : List Int).getD r.toNat 0
def RR (r : Int) : Ring := ⟨tOf r, cOf r⟩
def IsR (r : Int) : Prop := 0 ≤ r ∧ r < 5
instance (r : Int) : Decidable (IsR r) := inferInstanceAs (Decidable (_ ∧ _))
theorem isR_cases {r : Int} (h : IsR r) : r = 0 ∨ r = 1 ∨ r = 2 ∨ r = 3 ∨ r = 4 := by
  unfold IsR at h
  omega
theorem RR_ok {r : Int} (h : IsR r) : Rf.Ok (RR r) := by
  rcases isR_cases h with rfl | rfl | rfl | rfl | rfl <;> simp [RR, tOf, cOf, Rf.Ok]
theorem ring_in {r : Int} (h : IsR r) : Rings.ringOf r = some (RR r) := by
  rcases isR_cases h with rfl | rfl | rfl | rfl | rfl <;> rfl
theorem ring_out {r : Int} (h : ¬ IsR r) : Rings.ringOf r = none := by
  unfold Rings.ringOf
  split
  · have : 5 ≤ r.toNat := by
      unfold IsR at h
      omega
    exact List.getElem?_eq_none this
  · rfl
theorem uOf_units {r : Int} (h : IsR r) : uOf r = (Rg.unitsOf (RR r) : Int) := by
  rcases isR_cases h with rfl | rfl | rfl | rfl | rfl <;> rfl
theorem atI_tab {α : Type} (f : Int → α) {a b c d e r : Int} (h : IsR r) : atI [f a, f b, f c, f d, f e] r = some (f (([a, b, c, d, e] : List Int).getD r.toNat 0)) := by
  rcases isR_cases h with rfl | rfl | rfl | rfl | rfl <;> rfl
def BIG : Nat := 10000000
theorem BIG_eq : BIG = 10000000 := rfl
def Fit (n : Nat) (i : Int) : Prop := i.natAbs < 2 ^ n
instance (n : Nat) (i : Int) : Decidable (Fit n i) := inferInstanceAs (Decidable (_ < _))
def FZ (n : Nat) (z : Zw) : Prop := Fit n z.a ∧ Fit n z.b
theorem Fit.mono {m n : Nat} {i : Int} (h : Fit m i) (k : m ≤ n) : Fit n i := Nat.lt_of_lt_of_le h (Nat.pow_le_pow_right (by decide) k)
theorem Fit.mul {m n : Nat} {i j : Int} (h : Fit m i) (k : Fit n j) : Fit (m + n) (i * j) := by
  unfold Fit at *
  rw [Int.natAbs_mul, Nat.pow_add]
  exact Nat.mul_lt_mul'' h k
theorem Fit.add {m : Nat} {i j : Int} (h : Fit m i) (k : Fit m j) : Fit (m + 1) (i + j) := by
  unfold Fit at *
  rw [Nat.pow_succ]
  omega
theorem Fit.sub {m : Nat} {i j : Int} (h : Fit m i) (k : Fit m j) : Fit (m + 1) (i - j) := by
  unfold Fit at *
  rw [Nat.pow_succ]
  omega
theorem Fit.neg {m : Nat} {i : Int} (h : Fit m i) : Fit m (-i) := by
  unfold Fit at *
  rw [Int.natAbs_neg]
  exact h
theorem Fit.mulOk {m n : Nat} {i j : Int} (h : Fit m i) (k : Fit n j) (hs : m + n ≤ 134217728) : IntMulOk i j := IntMulOk.of_le (intBits_le_iff.mpr h) (intBits_le_iff.mpr k) hs
theorem fit_t {r : Int} (h : IsR r) : Fit 1 (tOf r) := by
  rcases isR_cases h with rfl | rfl | rfl | rfl | rfl <;> decide
theorem fit_c {r : Int} (h : IsR r) : Fit 2 (cOf r) := by
  rcases isR_cases h with rfl | rfl | rfl | rfl | rfl <;> decide
theorem FZ.mono {m n : Nat} {z : Zw} (h : FZ m z) (k : m ≤ n) : FZ n z := ⟨h.1.mono k, h.2.mono k⟩
theorem fz_one : FZ 1 Rg.one := ⟨by decide, by decide⟩
theorem FZ.mul {m n : Nat} {r : Int} {x y : Zw} (hr : IsR r) (h : FZ m x) (k : FZ n y) : FZ (m + n + 4) (Rg.mul (RR r) x y) := by
  have a1 := h.1.mul k.1
  have a2 := ((fit_c hr).mul h.2).mul k.2
  have b1 := h.1.mul k.2
  have b2 := h.2.mul k.1
  have b3 := ((fit_t hr).mul h.2).mul k.2
  refine ⟨?_, ?_⟩
  · exact ((a1.mono (show m + n ≤ m + n + 2 by omega)).sub (a2.mono (show 2 + m + n ≤ m + n + 2 by omega))).mono (by omega)
  · exact (((b1.add b2).mono (show m + n + 1 ≤ m + n + 2 by omega)).add (b3.mono (show 1 + m + n ≤ m + n + 2 by omega))).mono (by omega)
theorem FZ.norm {m : Nat} {r : Int} {x : Zw} (hr : IsR r) (h : FZ m x) : Fit (2 * m + 4) (Rg.norm (RR r) x) := by
  have a1 := h.1.mul h.1
  have a2 := ((fit_t hr).mul h.1).mul h.2
  have a3 := ((fit_c hr).mul h.2).mul h.2
  exact ((((a1.mono (show m + m ≤ 2 * m + 1 by omega)).add (a2.mono (show 1 + m + m ≤ 2 * m + 1 by omega))).mono (show 2 * m + 1 + 1 ≤ 2 * m + 2 by omega)).add (a3.mono (show 2 + m + m ≤ 2 * m + 2 by omega))).mono (by omega)
theorem FZ.mirror {m : Nat} {r : Int} {x : Zw} (hr : IsR r) (h : FZ m x) : FZ (m + 2) (Rg.mirror (RR r) x) :=
  ⟨((h.1.mono (show m ≤ m + 1 by omega)).add (((fit_t hr).mul h.2).mono (show 1 + m ≤ m + 1 by omega))).mono (by omega), h.2.neg.mono (by omega)⟩
theorem FZ.less {m : Nat} {x y : Zw} (h : FZ m x) (k : FZ m y) : FZ (m + 1) (Rg.less x y) := ⟨h.1.sub k.1, h.2.sub k.2⟩
theorem FZ.add {m : Nat} {x y : Zw} (h : FZ m x) (k : FZ m y) : FZ (m + 1) (Rg.add x y) := ⟨h.1.add k.1, h.2.add k.2⟩
def dz (z : Zw) : D := .tup [.int z.a, .int z.b]
def kz (z : Zw) : D := .key z.a z.b
def pz (z : Zw) : Int × Int := (z.a, z.b)
def CT (K : PySem.W.Frag) (mg : Str → Option Value) (x : Str) (d : D) : Prop := ∃ a, mg x = some (.ref a) ∧ ∀ G, Dq K G (.ref a) d
def CI (mg : Str → Option Value) (x : Str) (i : Int) : Prop := ∃ t, mg x = some (.int i t)
section
variable {X : Cx} {tb : Option Tb} {ss : Ss} {ow : Ow} {pos : Pos} {d : D} {i : Int} {x : Str}
theorem ex_ct (h : CT X.K X.mg x d) (hg : Gl X x := by rfl) (hd : (x == ("__debug__" : Str)) = false := by decide) : Ex tb X (.Name x pos) ss ow d := let ⟨_, h1, h2⟩ := h; ex_gr h1 h2 hg hd
theorem ex_ci (h : CI X.mg x i) (hg : Gl X x := by rfl) (hd : (x == ("__debug__" : Str)) = false := by decide) : Ex tb X (.Name x pos) ss ow (.int i) := let ⟨_, h1⟩ := h; ex_gi h1 hg hd
theorem za (i : Nat) {z : Zw} {x : Str} {p1 p2 : Pos} {j} (hN : X.N[i]? = some x := by rfl) (hs : ss[i]? = some (some (dz z)) := by rfl) (hv : Vis X.env.scope x := by first | exact Or.inl rfl | exact Or.inr (Or.inl rfl) | exact Or.inr (Or.inr rfl)) (hd : (x == ("__debug__" : Str)) = false := by decide)
    (hcd : (x == ("__classdict__" : Str)) = false := by decide) : Ex tb X (.Subscript (.Name x p1) (.Constant (.int 0) j p2) pos) ss ow (.int z.a) := ex_ixT (ex_v i hN hs hv hd hcd) ex_int rfl
theorem zb (i : Nat) {z : Zw} {x : Str} {p1 p2 : Pos} {j} (hN : X.N[i]? = some x := by rfl) (hs : ss[i]? = some (some (dz z)) := by rfl) (hv : Vis X.env.scope x := by first | exact Or.inl rfl | exact Or.inr (Or.inl rfl) | exact Or.inr (Or.inr rfl)) (hd : (x == ("__debug__" : Str)) = false := by decide)
    (hcd : (x == ("__classdict__" : Str)) = false := by decide) : Ex tb X (.Subscript (.Name x p1) (.Constant (.int 1) j p2) pos) ss ow (.int z.b) := ex_ixT (ex_v i hN hs hv hd hcd) ex_int rfl
end
theorem w_in {r : Int} (h : IsR r) (f : Ring → Rings.Ans) : RingsNeutral.told (Rings.inRing r f) = RingsNeutral.told (f (RR r)) := by
  unfold Rings.inRing
  rw [ring_in h]
theorem w_out {r : Int} (h : ¬ IsR r) (f : Ring → Rings.Ans) : RingsNeutral.told (Rings.inRing r f) = [-1] := by
  unfold Rings.inRing
  rw [ring_out h]
  rfl
theorem fit60 {a : Int} (h : PySem.W.Codec.inInt (-1000000000000000000) 1000000000000000000 a = true) : Fit 60 a := by
  have h := PySem.W.Codec.inInt_iff.mp h
  unfold Fit
  have : (2 : Nat) ^ 60 = 1152921504606846976 := by decide
  omega
abbrev tabD (l : List Int) : D := .tup (l.map D.int)
abbrev FunAt (K : PySem.W.Frag) (mg : Str → Option Value) (x : Str) (st : Stmt) : Prop := ∃ f fd, Fun K x x st f fd ∧ mg x = some (.ref f)
section
variable {X : Cx} {tb : Option Tb} {ss : Ss} {ow : Ow} {pos : Pos} {d : D} {c : Expr} {sa sb sts : List Stmt} {o : Out}
theorem bx_if {k : Bool} (hc : Tx tb X c ss ow k) (ht : k = true → Bx tb X sa ss ow (.rt d)) (hf : k = false → Bx tb X sts ss ow (.rt d)) : Bx tb X (.If c sa [] pos :: sts) ss ow (.rt d) := by
  cases k with
  | true => exact bx_out (sx_if hc (fun _ => ht rfl) fun z => Bool.noConfusion z)
  | false => exact bx_cons (sx_if hc (fun z => Bool.noConfusion z) fun _ => bx_nil) (hf rfl)
theorem bx_if_f (hc : Tx tb X c ss ow false) (hb : Bx tb X sts ss ow o) : Bx tb X (.If c sa [] pos :: sts) ss ow o := bx_cons (sx_if hc (fun z => Bool.noConfusion z) fun _ => bx_nil) hb
end
theorem Dqs.dw {K : PySem.W.Frag} {H : Hp} {v : V} {ns : List Int} (h : Dq K (hid [] H) v (.lst (ns.map D.int))) : Dw K H v (.list (ns.map PySem.W.WData.int)) := by
  rw [hid_nil] at h
  cases h with
  | lst s q =>
    rw [Dqs.of_ints q] at s
    exact .lst s (dw_ints _)
section
variable {K : PySem.W.Frag} {mg : Str → Option Value} {h : Heap} {x : Str} {p : Addr} {od : Option Addr} {n : Nat} {sl : Array (Option Value)}
theorem ri (i : Int) (t : Tok) : RelV (.int i) (.int i t) := ⟨t, rfl⟩
theorem ct_5 {a b c d e : Int} {t1 t2 t3 t4 t5 : Tok} (X : K.In h) (G : h.Ns mainGlobals mg) (q : PySem.W.nsIn K mainGlobals x = some (some (.ref p))) (l : K.lookup p = some ⟨.type "tuple", od, .seq #[.int a t1, .int b t2, .int c t3, .int d t4, .int e t5] n, sl⟩) : CT K mg x (tabD [a, b, c, d, e]) :=
  ⟨p, PySem.W.mg_of X G q, fun H => .tup (.inr ⟨_, _, _, l, rfl, rfl, by show 5 ≤ sizeLine; decide, .cons (ri _ _) (.cons (ri _ _) (.cons (ri _ _) (.cons (ri _ _) (.cons (ri _ _) .nil))))⟩) (Dqs.ints [a, b, c, d, e])⟩
theorem dq_2 {a b : Int} {t1 t2 : Tok} (l : K.lookup p = some ⟨.type "tuple", od, .seq #[.int a t1, .int b t2] n, sl⟩) (H : Hp) : Dq K H (.ref p) (dz ⟨a, b⟩) :=
  .tup (.inr ⟨_, _, _, l, rfl, rfl, by show 2 ≤ sizeLine; decide, .cons (ri _ _) (.cons (ri _ _) .nil)⟩) (Dqs.ints [a, b])
theorem ct_2 {a b : Int} {t1 t2 : Tok} (X : K.In h) (G : h.Ns mainGlobals mg) (q : PySem.W.nsIn K mainGlobals x = some (some (.ref p))) (l : K.lookup p = some ⟨.type "tuple", od, .seq #[.int a t1, .int b t2] n, sl⟩) : CT K mg x (dz ⟨a, b⟩) :=
  ⟨p, PySem.W.mg_of X G q, dq_2 l⟩
theorem ct_g {a1 b1 a2 b2 a3 b3 a4 b4 a5 b5 : Int} {p1 p2 p3 p4 p5 : Addr} {t1 u1 t2 u2 t3 u3 t4 u4 t5 u5 : Tok} {n1 n2 n3 n4 n5 : Nat} {d1 d2 d3 d4 d5 : Option Addr} {s1 s2 s3 s4 s5 : Array (Option Value)} (X : K.In h) (G : h.Ns mainGlobals mg) (q : PySem.W.nsIn K mainGlobals x = some (some (.ref p)))
    (l : K.lookup p = some ⟨.type "tuple", od, .seq #[.ref p1, .ref p2, .ref p3, .ref p4, .ref p5] n, sl⟩) (l1 : K.lookup p1 = some ⟨.type "tuple", d1, .seq #[.int a1 t1, .int b1 u1] n1, s1⟩) (l2 : K.lookup p2 = some ⟨.type "tuple", d2, .seq #[.int a2 t2, .int b2 u2] n2, s2⟩)
    (l3 : K.lookup p3 = some ⟨.type "tuple", d3, .seq #[.int a3 t3, .int b3 u3] n3, s3⟩) (l4 : K.lookup p4 = some ⟨.type "tuple", d4, .seq #[.int a4 t4, .int b4 u4] n4, s4⟩) (l5 : K.lookup p5 = some ⟨.type "tuple", d5, .seq #[.int a5 t5, .int b5 u5] n5, s5⟩) :
    CT K mg x (.tup [dz ⟨a1, b1⟩, dz ⟨a2, b2⟩, dz ⟨a3, b3⟩, dz ⟨a4, b4⟩, dz ⟨a5, b5⟩]) :=
  ⟨p, PySem.W.mg_of X G q, fun H => .tup (xs := [.ref p1, .ref p2, .ref p3, .ref p4, .ref p5]) (.inr ⟨_, _, _, l, rfl, rfl, by show 5 ≤ sizeLine; decide, .cons rfl (.cons rfl (.cons rfl (.cons rfl (.cons rfl .nil))))⟩)
    (.cons (dq_2 l1 H) (.cons (dq_2 l2 H) (.cons (dq_2 l3 H) (.cons (dq_2 l4 H) (.cons (dq_2 l5 H) .nil)))))⟩
theorem ci_of {i : Int} {t : Tok} (X : K.In h) (G : h.Ns mainGlobals mg) (q : PySem.W.nsIn K mainGlobals x = some (some (.int i t))) : CI mg x i := ⟨t, PySem.W.mg_of X G q⟩
theorem fa_of {st : Stmt} {oc : Value} {an : Option Addr} {kV doc pm cdv ct : Value} (X : K.In h) (G : h.Ns mainGlobals mg) (q : PySem.W.nsIn K mainGlobals x = some (some (.ref p)))
    (l : K.lookup p = some ⟨oc, od, .func (PySem.W.fnOf x x (defArgs st) (defBody st) (defScope st) .none kV doc pm an cdv ct), sl⟩) (c : PySem.W.codeIn K cdv x = true) (k : PySem.W.keepIn K (.ref p) = true) : FunAt K mg x st :=
  ⟨p, _, fun_mk l c k, PySem.W.mg_of X G q⟩
end
end Pg
set_option Elab.async false
set_option linter.all false
set_option maxRecDepth 100000
set_option maxHeartbeats 4000000
namespace Pg
open PySem PySem.Spec PyProof.Rows L2 BS
open Rg (Zw Ring)
def top (i : Nat) : Stmt := PySem.Challenge.pw_ringfive_s17_symbol.main.body.getD i (.Pass ⟨0, 0, 0, 0⟩)
abbrev s_is_ring : Stmt := top 8
abbrev s_product : Stmt := top 9
abbrev s_mirror_of : Stmt := top 10
abbrev s_norm_of : Stmt := top 11
abbrev s_minus : Stmt := top 12
abbrev s_turned : Stmt := top 13
abbrev s_unit_of : Stmt := top 14
abbrev s_form_of : Stmt := top 15
abbrev s_turns_to_form : Stmt := top 16
abbrev s_left_over : Stmt := top 17
abbrev s_nearest_in_row : Stmt := top 18
abbrev s_quotient : Stmt := top 19
abbrev s_rest_of : Stmt := top 20
abbrev s_common_divisor : Stmt := top 21
abbrev s_whole_root : Stmt := top 22
abbrev s_forms_of_norm : Stmt := top 23
abbrev s_whole_primes_of : Stmt := top 24
abbrev s_primes_over : Stmt := top 25
abbrev s_primes_of_both : Stmt := top 26
abbrev s_take_out : Stmt := top 27
abbrev s_factors_of : Stmt := top 28
abbrev s_is_prime : Stmt := top 29
abbrev s_rest_of_power : Stmt := top 30
abbrev s_has_symbols : Stmt := top 31
abbrev s_symbol_of : Stmt := top 32
abbrev s_is_small : Stmt := top 37
abbrev s_told : Stmt := top 38
abbrev s_symbol : Stmt := top 39
/-- the lambda of quotient: its place -/
def qTb (P : Addr) : Tb := ⟨P, 43, 25, (("quotient" : Str) ++ (".<locals>." : Str)) ++ ("<lambda>" : Str)⟩
section
variable {P : Program} {w : World} {K : PySem.W.Frag} {mg : Str → Option Value} {base : Heap} {tb : Option Tb}
def rowsD (l : List (List Int)) : List D := l.map tabD
def preTold : List D → D → Prop := fun as d => ∃ (n : Int) (l : List (List Int)), as = [.int n, .lst (rowsD l)] ∧ l.flatten.length < 1000000 ∧ d = .lst ((n :: l.flatten).map D.int)
theorem sc_told : FnScope ["answer", "numbers", "parts", "x"] ["answer", "numbers"] (defScope s_told) := ⟨rfl, rfl, rfl, by decide +kernel, rfl, by decide +kernel, by decide +kernel⟩
theorem flat_take {l : List (List Int)} {j : Nat} {x : List Int} (h : l[j]? = some x) : (l.take (j + 1)).flatten = (l.take j).flatten ++ x := by
  rw [take_snoc' h, List.flatten_append]
  simp
theorem flat_le : ∀ (l : List (List Int)) (j : Nat), (l.take j).flatten.length ≤ l.flatten.length
  | [], j => by simp
  | a :: l, 0 => by simp
  | a :: l, j + 1 => by
    have := flat_le l j
    simp only [List.take_succ_cons, List.flatten_cons, List.length_append]
    omega
theorem ok_told (F : FunAt K mg "told" s_told) : Fx P w K mg base tb "told" 1 2 preTold := by
  obtain ⟨f, fd, F, hm⟩ := F
  refine fx_of F hm (F.binds (ps := ["answer", "numbers"]) fun _ _ _ _ _ _ us hl => match us, hl with | [_, _], _ => rfl) sc_told rfl (fun cdv A outer s H E args d hr hn hp => ?_)
  obtain ⟨n, l, rfl, hlen, rfl⟩ := hp
  refine bx_cons (sx_own 2 (xs_one (ex_v 0)) sc_told.nd) ?_
  refine bx_cons (sx_for 3 (fun j ss ow => ∃ v : Option D, ss = [some (.int n), some (.lst (rowsD l)), none, v] ∧ ow = .lst 2 ((n :: (l.take j).flatten).map D.int)) PassesOwn.never rfl sc_told.nd (ex_v 1) ⟨none, rfl, by simp⟩ ?_
    (ss' := [some (.int n), some (.lst (rowsD l)), none, none]) (ow' := .lst 2 ((n :: l.flatten).map D.int)) ?_) (bx_one sx_retOwn)
  · rintro j d ss ow hj ⟨v, rfl, rfl⟩
    obtain ⟨x, hx, rfl⟩ : ∃ x, l[j]? = some x ∧ tabD x = d := by
      unfold rowsD at hj
      rw [List.getElem?_map] at hj
      cases e : l[j]? with
      | none => rw [e] at hj; cases hj
      | some x => rw [e] at hj; exact ⟨x, rfl, Option.some.inj hj⟩
    have q := flat_take hx
    have q2 := flat_le l (j + 1)
    have q3 := congrArg List.length q
    rw [List.length_append] at q3
    refine ⟨rfl, _, _, bx_one (sx_extend 2 (ex_v 3) (by simp only [List.length_map, List.length_cons]; omega)), some (tabD x), rfl, ?_⟩
    rw [q, ← List.cons_append, List.map_append]
  · rintro ss ow ⟨v, rfl, rfl⟩
    refine ⟨⟨rfl, rfl, trivial⟩, ?_⟩
    unfold rowsD
    rw [List.length_map, List.take_length]
def preIsRing : List D → D → Prop := fun as d => ∃ r : Int, as = [.int r] ∧ d = .bl (decide (IsR r))
theorem sc_is_ring : FnScope ["r"] ["r"] (defScope s_is_ring) := ⟨rfl, rfl, rfl, by decide +kernel, rfl, by decide +kernel, by decide +kernel⟩
theorem ok_is_ring (F : FunAt K mg "is_ring" s_is_ring) (T : CT K mg "T_OF_RING" (tabD [0, 0, 1, 1, 1])) (hl : mg "len" = none) : Fx P w K mg base tb "is_ring" 1 1 preIsRing := by
  obtain ⟨f, fd, F, hm⟩ := F
  refine fx_of F hm (F.binds (ps := ["r"]) fun _ _ _ _ _ _ us hl => match us, hl with | [_], _ => rfl) sc_is_ring rfl (fun cdv A outer s H E args d hr hn hp => ?_)
  obtain ⟨r, rfl, rfl⟩ := hp
  refine bx_one (sx_ret (Ex.cast (ex_chain ex_int (ex_v 0) (ex_lenT hl (ex_ct T))) ?_))
  refine congrArg D.bl ?_
  rw [Bool.eq_iff_iff]
  simp only [Bool.and_eq_true, decide_eq_true_eq]
  exact Iff.rfl
def preProduct : List D → D → Prop := fun as d => ∃ (r : Int) (x y : Zw), as = [.int r, dz x, dz y] ∧ IsR r ∧ FZ BIG x ∧ FZ BIG y ∧ d = kz (Rg.mul (RR r) x y)
theorem sc_product : FnScope ["r", "x", "y", "w_squares", "a", "b"] ["r", "x", "y"] (defScope s_product) := ⟨rfl, rfl, rfl, by decide +kernel, rfl, by decide +kernel, by decide +kernel⟩
theorem ok_product (F : FunAt K mg "product" s_product) (T : CT K mg "T_OF_RING" (tabD [0, 0, 1, 1, 1])) (C : CT K mg "C_OF_RING" (tabD [1, 2, 1, 2, 3])) : Fx P w K mg base tb "product" 1 3 preProduct := by
  obtain ⟨f, fd, F, hm⟩ := F
  refine fx_of F hm (F.binds (ps := ["r", "x", "y"]) fun _ _ _ _ _ _ us hl => match us, hl with | [_, _, _], _ => rfl) sc_product rfl (fun cdv A outer s H E args d hr hn hp => ?_)
  obtain ⟨r, x, y, rfl, hR, hx, hy, rfl⟩ := hp
  have hB := BIG_eq
  have ww := hx.2.mul hy.2
  refine bx_cons (sx_set 3 (ex_mul (zb 1) (zb 2) (hx.2.mulOk hy.2 (by omega))) sc_product.nd) ?_
  refine bx_cons (sx_set 4 (ex_sub (ex_mul (za 1) (za 2) (hx.1.mulOk hy.1 (by omega))) (ex_mul (ex_ixT (ex_ct C) (ex_v 0) (atI_tab D.int hR)) (ex_v 3) ((fit_c hR).mulOk ww (by omega)))) sc_product.nd) ?_
  refine bx_cons (sx_set 5 (ex_add (ex_add (ex_mul (za 1) (zb 2) (hx.1.mulOk hy.2 (by omega))) (ex_mul (zb 1) (za 2) (hx.2.mulOk hy.1 (by omega)))) (ex_mul (ex_ixT (ex_ct T) (ex_v 0) (atI_tab D.int hR)) (ex_v 3) ((fit_t hR).mulOk ww (by omega)))) sc_product.nd) ?_
  refine bx_one (sx_ret (Ex.cast (ex_key (xs_cons (ex_v 4) (xs_one (ex_v 5)))) ?_))
  show D.key _ _ = D.key _ _
  rw [show ([1, 2, 1, 2, 3] : List Int).getD r.toNat 0 = (RR r).c from rfl, show ([0, 0, 1, 1, 1] : List Int).getD r.toNat 0 = (RR r).t from rfl]
  simp only [Rg.mul, Int.mul_assoc]
def preMirror : List D → D → Prop := fun as d => ∃ (r : Int) (x : Zw), as = [.int r, dz x] ∧ IsR r ∧ FZ BIG x ∧ d = kz (Rg.mirror (RR r) x)
theorem sc_mirror_of : FnScope ["r", "x"] ["r", "x"] (defScope s_mirror_of) := ⟨rfl, rfl, rfl, by decide +kernel, rfl, by decide +kernel, by decide +kernel⟩
theorem ok_mirror_of (F : FunAt K mg "mirror_of" s_mirror_of) (T : CT K mg "T_OF_RING" (tabD [0, 0, 1, 1, 1])) : Fx P w K mg base tb "mirror_of" 1 2 preMirror := by
  obtain ⟨f, fd, F, hm⟩ := F
  refine fx_of F hm (F.binds (ps := ["r", "x"]) fun _ _ _ _ _ _ us hl => match us, hl with | [_, _], _ => rfl) sc_mirror_of rfl (fun cdv A outer s H E args d hr hn hp => ?_)
  obtain ⟨r, x, rfl, hR, hx, rfl⟩ := hp
  have hB := BIG_eq
  exact bx_one (sx_ret (ex_key (xs_cons (ex_add (za 1) (ex_mul (ex_ixT (ex_ct T) (ex_v 0) (atI_tab D.int hR)) (zb 1) ((fit_t hR).mulOk hx.2 (by omega)))) (xs_one (ex_neg (zb 1))))))
def preNorm : List D → D → Prop := fun as d => ∃ (r : Int) (x : Zw), as = [.int r, dz x] ∧ IsR r ∧ FZ BIG x ∧ d = .int (Rg.norm (RR r) x)
theorem sc_norm_of : FnScope ["r", "x"] ["r", "x"] (defScope s_norm_of) := ⟨rfl, rfl, rfl, by decide +kernel, rfl, by decide +kernel, by decide +kernel⟩
theorem ok_norm_of (F : FunAt K mg "norm_of" s_norm_of) (T : CT K mg "T_OF_RING" (tabD [0, 0, 1, 1, 1])) (C : CT K mg "C_OF_RING" (tabD [1, 2, 1, 2, 3])) : Fx P w K mg base tb "norm_of" 1 2 preNorm := by
  obtain ⟨f, fd, F, hm⟩ := F
  refine fx_of F hm (F.binds (ps := ["r", "x"]) fun _ _ _ _ _ _ us hl => match us, hl with | [_, _], _ => rfl) sc_norm_of rfl (fun cdv A outer s H E args d hr hn hp => ?_)
  obtain ⟨r, x, rfl, hR, hx, rfl⟩ := hp
  have hB := BIG_eq
  exact bx_one (sx_ret (ex_add (ex_add (ex_mul (za 1) (za 1) (hx.1.mulOk hx.1 (by omega))) (ex_mul (ex_mul (ex_ixT (ex_ct T) (ex_v 0) (atI_tab D.int hR)) (za 1) ((fit_t hR).mulOk hx.1 (by omega))) (zb 1) (((fit_t hR).mul hx.1).mulOk hx.2 (by omega))))
    (ex_mul (ex_mul (ex_ixT (ex_ct C) (ex_v 0) (atI_tab D.int hR)) (zb 1) ((fit_c hR).mulOk hx.2 (by omega))) (zb 1) (((fit_c hR).mul hx.2).mulOk hx.2 (by omega)))))
def preMinus : List D → D → Prop := fun as d => ∃ x y : Zw, as = [dz x, dz y] ∧ d = kz (Rg.less x y)
theorem sc_minus : FnScope ["x", "y"] ["x", "y"] (defScope s_minus) := ⟨rfl, rfl, rfl, by decide +kernel, rfl, by decide +kernel, by decide +kernel⟩
theorem ok_minus (F : FunAt K mg "minus" s_minus) : Fx P w K mg base tb "minus" 1 2 preMinus := by
  obtain ⟨f, fd, F, hm⟩ := F
  refine fx_of F hm (F.binds (ps := ["x", "y"]) fun _ _ _ _ _ _ us hl => match us, hl with | [_, _], _ => rfl) sc_minus rfl (fun cdv A outer s H E args d hr hn hp => ?_)
  obtain ⟨x, y, rfl, rfl⟩ := hp
  exact bx_one (sx_ret (ex_key (xs_cons (ex_sub (za 0) (za 1)) (xs_one (ex_sub (zb 0) (zb 1))))))
def preLeft : List D → D → Prop := fun as d => ∃ (r : Int) (x q y : Zw), as = [.int r, dz x, dz q, dz y] ∧ IsR r ∧ FZ BIG q ∧ FZ BIG y ∧ d = kz (Rg.less x (Rg.mul (RR r) q y))
theorem sc_left_over : FnScope ["r", "x", "q", "y"] ["r", "x", "q", "y"] (defScope s_left_over) := ⟨rfl, rfl, rfl, by decide +kernel, rfl, by decide +kernel, by decide +kernel⟩
theorem ok_left_over (F : FunAt K mg "left_over" s_left_over) (Pr : Fx P w K mg base tb "product" 1 3 preProduct) (Mi : Fx P w K mg base tb "minus" 1 2 preMinus) : Fx P w K mg base tb "left_over" 2 4 preLeft := by
  obtain ⟨f, fd, F, hm⟩ := F
  refine fx_of F hm (F.binds (ps := ["r", "x", "q", "y"]) fun _ _ _ _ _ _ us hl => match us, hl with | [_, _, _, _], _ => rfl) sc_left_over rfl (fun cdv A outer s H E args d hr hn hp => ?_)
  obtain ⟨r, x, q, y, rfl, hR, hq, hy, rfl⟩ := hp
  exact bx_one (sx_ret (ex_call Mi hr (xs_cons (ex_v 1) (xs_one (Ex.pair (ex_call Pr hr (xs_cons (ex_v 0) (xs_cons (ex_v 2) (xs_one (ex_v 3)))) ⟨r, q, y, rfl, hR, hq, hy, rfl⟩)))) ⟨x, _, rfl, rfl⟩))
theorem Fit.log {m k : Nat} {i : Int} (h : Fit m i) (hk : m ≤ k) (hp : 0 < i) : i.natAbs.log2 < k := Nat.lt_of_lt_of_le ((Nat.log2_lt (by omega)).mpr h) hk
theorem fit_two : Fit 2 2 := by decide
theorem Fit.ediv {m : Nat} {i j : Int} (h : Fit m i) (hj : 0 < j) : Fit m (i / j) := by
  unfold Fit at *
  have h1 : (i / j).natAbs ≤ i.natAbs := by
    by_cases hi : 0 ≤ i
    · have a := Int.ediv_nonneg hi (Int.le_of_lt hj)
      have b := Int.ediv_le_self j hi
      omega
    · have a : i ≤ i / j := (Int.le_ediv_iff_mul_le hj).mpr (by
        have := Int.mul_le_mul_of_nonpos_left (show i ≤ 0 by omega) (show (1 : Int) ≤ j by omega)
        omega)
      have b : i / j < 0 := Int.ediv_neg_of_neg_of_pos (by omega) hj
      omega
  omega
def rowLo (r : Int) (top : Zw) (n b : Int) : Int := (2 * top.a + tOf r * (top.b - b * n)) / (2 * n)
def preRow : List D → D → Prop := fun as d => ∃ (r : Int) (top : Zw) (n b : Int), as = [.int r, dz top, .int n, .int b] ∧ IsR r ∧ FZ 3000000 top ∧ 0 < n ∧ Fit 8500 n ∧ Fit 3000000 b ∧ d = .lst [kz ⟨rowLo r top n b, b⟩, kz ⟨rowLo r top n b + 1, b⟩]
theorem sc_nearest_in_row : FnScope ["r", "top", "n", "b", "low_a"] ["r", "top", "n", "b"] (defScope s_nearest_in_row) := ⟨rfl, rfl, rfl, by decide +kernel, rfl, by decide +kernel, by decide +kernel⟩
theorem ok_nearest_in_row (F : FunAt K mg "nearest_in_row" s_nearest_in_row) (T : CT K mg "T_OF_RING" (tabD [0, 0, 1, 1, 1])) : Fx P w K mg base tb "nearest_in_row" 1 4 preRow := by
  obtain ⟨f, fd, F, hm⟩ := F
  refine fx_of F hm (F.binds (ps := ["r", "top", "n", "b"]) fun _ _ _ _ _ _ us hl => match us, hl with | [_, _, _, _], _ => rfl) sc_nearest_in_row rfl (fun cdv A outer s H E args d hr hn hp => ?_)
  obtain ⟨r, top, n, b, rfl, hR, ht, hpos, hn', hb, rfl⟩ := hp
  have f2 := fit_two.mul hn'
  have fbn := (hb.mul hn').mono (show 3000000 + 8500 ≤ 3100000 by omega)
  have fs := (ht.2.mono (show 3000000 ≤ 3100000 by omega)).sub fbn
  refine bx_cons (sx_set 4 (ex_fdiv (ex_add (ex_mul ex_int (za 1) (fit_two.mulOk ht.1 (by omega))) (ex_mul (ex_ixT (ex_ct T) (ex_v 0) (atI_tab D.int hR)) (ex_sub (zb 1) (ex_mul (ex_v 3) (ex_v 2) (hb.mulOk hn' (by omega)))) ((fit_t hR).mulOk fs (by omega)))) (ex_mul ex_int (ex_v 2) (fit_two.mulOk hn' (by omega))) (by omega) (Fit.log f2 (by omega) (by omega))) sc_nearest_in_row.nd) ?_
  exact bx_one (sx_ret (ex_lst (xs_cons (ex_key (xs_cons (ex_v 4) (xs_one (ex_v 3)))) (xs_one (ex_key (xs_cons (ex_add (ex_v 4) ex_int) (xs_one (ex_v 3))))))))
theorem minAt_is (l : List KeyT) : ∀ k : Nat, k < l.length → minAt l k ≤ k ∧ ∀ i : Nat, i ≤ k → ltK (l.getD i (0, 0, 0)) (l.getD (minAt l k) (0, 0, 0)) = false
  | 0, _ => ⟨Nat.le_refl _, fun i hi => by
    have e : i = 0 := by omega
    subst e
    show ltK _ (l.getD 0 (0, 0, 0)) = false
    simp [ltK]⟩
  | k + 1, h => by
    obtain ⟨h1, h2⟩ := minAt_is l k (by omega)
    have un : minAt l (k + 1) = if ltK (l.getD (k + 1) (0, 0, 0)) (l.getD (minAt l k) (0, 0, 0)) = true then k + 1 else minAt l k := rfl
    cases q : ltK (l.getD (k + 1) (0, 0, 0)) (l.getD (minAt l k) (0, 0, 0)) with
    | true =>
      rw [un, q, if_pos rfl]
      refine ⟨Nat.le_refl _, fun i hi => ?_⟩
      by_cases e : i = k + 1
      · subst e
        simp [ltK]
      · have z := of_decide_eq_false (h2 i (by omega))
        have q' := of_decide_eq_true q
        exact decide_eq_false (by omega)
    | false =>
      rw [un, q, if_neg Bool.false_ne_true]
      refine ⟨by omega, fun i hi => ?_⟩
      by_cases e : i = k + 1
      · subst e
        exact q
      · exact h2 i (by omega)
def nearZ (r : Int) (x y : Zw) : List (Int × Int) :=
  let top := Rg.mul (RR r) x (Rg.mirror (RR r) y)
  let n := Rg.norm (RR r) y
  let b := top.b / n
  [(rowLo r top n b, b), (rowLo r top n b + 1, b), (rowLo r top n (b + 1), b + 1), (rowLo r top n (b + 1) + 1, b + 1)]
def keyZ (r : Int) (x y : Zw) (z : Int × Int) : KeyT := (Rg.norm (RR r) (Rg.less x (Rg.mul (RR r) ⟨z.1, z.2⟩ y)), z)
theorem near_min {r : Int} (hR : IsR r) {x y : Zw} (hy : y ≠ Rg.zero) : (nearZ r x y).getD (minAt ((nearZ r x y).map (keyZ r x y)) 3) (0, 0) = pz (Rg.quot (RR r) x y) := by
  obtain ⟨h1, h2⟩ := minAt_is ((nearZ r x y).map (keyZ r x y)) 3 (by show 3 < 4; omega)
  generalize minAt ((nearZ r x y).map (keyZ r x y)) 3 = m at h1 h2
  obtain ⟨z, hz⟩ : ∃ z, (nearZ r x y)[m]? = some z := ⟨_, List.getElem?_eq_getElem (show m < 4 by omega)⟩
  have e1 : (nearZ r x y).getD m (0, 0) = z := by simp [hz]
  have e2 : ((nearZ r x y).map (keyZ r x y)).getD m (0, 0, 0) = keyZ r x y z := by simp [hz]
  rw [e1]
  rw [e2] at h2
  have key : (⟨z.1, z.2⟩ : Zw) = Rg.quot (RR r) x y := by
    have low : ∀ b, rowLo r (Rg.mul (RR r) x (Rg.mirror (RR r) y)) (Rg.norm (RR r) y) b = Rf.rowLow (RR r) x y b := fun b => rfl
    refine Rf.quot_of_rows (RR_ok hR) hy fun a b hb ha => ?_
    obtain ⟨i, hi, ei⟩ : ∃ i, i ≤ 3 ∧ (nearZ r x y)[i]? = some (a, b) := by
      unfold nearZ
      simp only [low]
      rcases hb with rfl | rfl <;> rcases ha with rfl | rfl
      · exact ⟨0, by omega, rfl⟩
      · exact ⟨1, by omega, rfl⟩
      · exact ⟨2, by omega, rfl⟩
      · exact ⟨3, by omega, rfl⟩
    have q := h2 i hi
    have e3 : ((nearZ r x y).map (keyZ r x y)).getD i (0, 0, 0) = keyZ r x y (a, b) := by simp [ei]
    rw [e3] at q
    have q' := of_decide_eq_false q
    simp only [keyZ] at q'
    unfold Rf.Best
    by_cases l1 : Rg.norm (RR r) (Rg.less x (Rg.mul (RR r) ⟨z.1, z.2⟩ y)) < Rg.norm (RR r) (Rg.less x (Rg.mul (RR r) ⟨a, b⟩ y))
    · exact .inl l1
    · refine .inr ⟨by omega, ?_⟩
      by_cases l2 : z.1 = a ∧ z.2 = b
      · exact .inl (by rw [l2.1, l2.2])
      · refine .inr ((Rf.before_iff _ _).mpr ?_)
        show z.1 < a ∨ z.1 = a ∧ z.2 < b
        omega
  rw [← key]
  rfl
theorem near_fitN {r : Int} (hR : IsR r) {n k : Nat} {x y : Zw} (hx : FZ n x) (hy : FZ k y) (hy0 : y ≠ Rg.zero) {i : Nat} {z : Int × Int} (h : (nearZ r x y)[i]? = some z) : FZ (n + 3 * k + 40) ⟨z.1, z.2⟩ := by
  have hnp := Rf.norm_pos (RR_ok hR) hy0
  have ft := hx.mul hR (hy.mirror hR)
  have fn := hy.norm hR
  have fb := Fit.ediv ft.2 hnp
  have low : ∀ b : Int, Fit (n + k + 8) b → Fit (n + 3 * k + 30) (rowLo r (Rg.mul (RR r) x (Rg.mirror (RR r) y)) (Rg.norm (RR r) y) b) := fun b hb => by
    refine Fit.ediv (Fit.mono (Fit.add ((fit_two.mul ft.1).mono (show _ ≤ n + 3 * k + 20 by omega)) (((fit_t hR).mul ((ft.2.mono (show _ ≤ n + 3 * k + 13 by omega)).sub ((hb.mul fn).mono (show _ ≤ n + 3 * k + 13 by omega)))).mono (show _ ≤ n + 3 * k + 20 by omega))) (by omega)) (by omega)
  have f1 : Fit 1 1 := by decide
  have fb' : Fit (n + k + 8) ((Rg.mul (RR r) x (Rg.mirror (RR r) y)).b / Rg.norm (RR r) y) := fb.mono (by omega)
  have fb1 : Fit (n + k + 8) ((Rg.mul (RR r) x (Rg.mirror (RR r) y)).b / Rg.norm (RR r) y + 1) := (fb.add (f1.mono (by omega))).mono (by omega)
  have l1 := low _ fb'
  have l2 := low _ fb1
  have s1 := l1.add (f1.mono (show 1 ≤ n + 3 * k + 30 by omega))
  have s2 := l2.add (f1.mono (show 1 ≤ n + 3 * k + 30 by omega))
  unfold nearZ at h
  match i, h with
  | 0, h => cases h; exact ⟨l1.mono (by omega), fb'.mono (by omega)⟩
  | 1, h => cases h; exact ⟨s1.mono (by omega), fb'.mono (by omega)⟩
  | 2, h => cases h; exact ⟨l2.mono (by omega), fb1.mono (by omega)⟩
  | 3, h => cases h; exact ⟨s2.mono (by omega), fb1.mono (by omega)⟩
  | _ + 4, h => simp at h
theorem pz_kz (z : Zw) : zpK (pz z) = kz z := rfl
def preQuot : List D → D → Prop := fun as d => ∃ (r : Int) (x y : Zw), as = [.int r, dz x, dz y] ∧ IsR r ∧ FZ 2000000 x ∧ FZ 4000 y ∧ y ≠ Rg.zero ∧ d = kz (Rg.quot (RR r) x y)
theorem sc_quotient : FnScope ["r", "x", "y", "top", "n", "low_b", "near", "q"] ["r", "x", "y"] (defScope s_quotient) := ⟨rfl, rfl, rfl, by decide +kernel, rfl, by decide +kernel, by decide +kernel⟩
theorem ok_quotient {Pq c : Addr} (F : FunC K mg "quotient" s_quotient c) (LB : LamB mg base c Pq) (hmin : mg "min" = none) (Pr : Fx P w K mg base (some (qTb Pq)) "product" 1 3 preProduct) (Mi : Fx P w K mg base (some (qTb Pq)) "mirror_of" 1 2 preMirror) (No : Fx P w K mg base (some (qTb Pq)) "norm_of" 1 2 preNorm)
    (Lo : Fx P w K mg base (some (qTb Pq)) "left_over" 2 4 preLeft) (Ro : Fx P w K mg base (some (qTb Pq)) "nearest_in_row" 1 4 preRow) : Fx P w K mg base (some (qTb Pq)) "quotient" 5 3 preQuot := by
  refine fx_ofC F sc_quotient rfl (fun _ _ _ _ _ _ us hl => match us, hl with | [_, _, _], _ => rfl) (fun f A outer s H E args d hr hn hp => ?_)
  obtain ⟨r, x, y, rfl, hR, hx, hy, hy0, rfl⟩ := hp
  have hB := BIG_eq
  have hok := RR_ok hR
  have hnp := Rf.norm_pos hok hy0
  have fm := hy.mirror hR
  have ft := hx.mul hR fm
  have fn := hy.norm hR
  have fb := Fit.ediv ft.2 hnp
  refine bx_cons (sx_set 3 (Ex.pair (ex_call (Pr.mono (k := 4) (by decide)) hr (xs_cons (ex_v 0) (xs_cons (ex_v 1) (xs_one (Ex.pair (ex_call (Mi.mono (k := 4) (by decide)) hr (xs_cons (ex_v 0) (xs_one (ex_v 2))) ⟨r, y, rfl, hR, hy.mono (by omega), rfl⟩))))) ⟨r, x, _, rfl, hR, hx.mono (by omega), fm.mono (by omega), rfl⟩)) sc_quotient.nd) ?_
  refine bx_cons (sx_set 4 (ex_call (No.mono (k := 4) (by decide)) hr (xs_cons (ex_v 0) (xs_one (ex_v 2))) ⟨r, y, rfl, hR, hy.mono (by omega), rfl⟩) sc_quotient.nd) ?_
  refine bx_cons (sx_set 5 (ex_fdiv (zb 3 (z := Rg.mul (RR r) x (Rg.mirror (RR r) y))) (ex_v 4) hnp (Fit.log fn (by omega) hnp)) sc_quotient.nd) ?_
  refine bx_cons (sx_set 6 (ex_catL (ex_call (Ro.mono (k := 4) (by decide)) hr (xs_cons (ex_v 0) (xs_cons (ex_v 3) (xs_cons (ex_v 4) (xs_one (ex_v 5))))) ⟨r, _, _, _, rfl, hR, ft.mono (by omega), hnp, fn.mono (by omega), fb.mono (by omega), rfl⟩)
    (ex_call (Ro.mono (k := 4) (by decide)) hr (xs_cons (ex_v 0) (xs_cons (ex_v 3) (xs_cons (ex_v 4) (xs_one (ex_add (ex_v 5) ex_int))))) ⟨r, _, _, _, rfl, hR, ft.mono (by omega), hnp, fn.mono (by omega), (fb.add ((show Fit 1 1 by decide).mono (by omega))).mono (by omega), rfl⟩) (by simp)) sc_quotient.nd) ?_
  refine bx_one (sx_ret ?_)
  refine ex_minKey (b := qTb Pq) (c := c) (x := "q") (jq := 7) (k := 2) (zs := nearZ r x y) (ks := (nearZ r x y).map (keyZ r x y)) (f := zpK) ?_ ?_ ?_ ?_ ?_ ?_ ?_ ?_ ?_ ?_ ?_ ?_ ?_ ?_ ?_ ?_ ?_ ?_ ?_ ?_ ?_
  · exact .inr rfl
  · exact hmin
  · exact hr
  · rfl
  · rfl
  · exact sc_quotient.nd
  · exact LB
  · rfl
  · rfl
  · rfl
  · rfl
  · exact blkOk_by (by rfl)
  · rfl
  · decide +kernel
  · rfl
  · rfl
  · exact fun _ _ _ _ _ => rfl
  · exact Ex.cast (d := .lst [kz ⟨rowLo r (Rg.mul (RR r) x (Rg.mirror (RR r) y)) (Rg.norm (RR r) y) ((Rg.mul (RR r) x (Rg.mirror (RR r) y)).b / Rg.norm (RR r) y), (Rg.mul (RR r) x (Rg.mirror (RR r) y)).b / Rg.norm (RR r) y⟩, kz ⟨rowLo r (Rg.mul (RR r) x (Rg.mirror (RR r) y)) (Rg.norm (RR r) y) ((Rg.mul (RR r) x (Rg.mirror (RR r) y)).b / Rg.norm (RR r) y) + 1, (Rg.mul (RR r) x (Rg.mirror (RR r) y)).b / Rg.norm (RR r) y⟩, kz ⟨rowLo r (Rg.mul (RR r) x (Rg.mirror (RR r) y)) (Rg.norm (RR r) y) ((Rg.mul (RR r) x (Rg.mirror (RR r) y)).b / Rg.norm (RR r) y + 1), (Rg.mul (RR r) x (Rg.mirror (RR r) y)).b / Rg.norm (RR r) y + 1⟩, kz ⟨rowLo r (Rg.mul (RR r) x (Rg.mirror (RR r) y)) (Rg.norm (RR r) y) ((Rg.mul (RR r) x (Rg.mirror (RR r) y)).b / Rg.norm (RR r) y + 1) + 1, (Rg.mul (RR r) x (Rg.mirror (RR r) y)).b / Rg.norm (RR r) y + 1⟩]) (ex_v 6) rfl
  · show 0 < 4
    omega
  · intro i z s H L q c' hz
    have fz := near_fitN hR hx hy hy0 hz
    have fl := (hx.mono (show 2000000 ≤ 2100000 by omega)).less ((fz.mul hR hy).mono (show 2000000 + 3 * 4000 + 40 + 4000 + 4 ≤ 2100000 by omega))
    have e : ((nearZ r x y).map (keyZ r x y)).getD i (0, 0, 0) = keyZ r x y z := by simp [hz]
    rw [e]
    show Ex _ _ _ _ _ (.tup [.int (Rg.norm (RR r) (Rg.less x (Rg.mul (RR r) ⟨z.1, z.2⟩ y))), .tup [.int z.1, .int z.2]])
    refine ex_tup (xs_cons ?_ (xs_one ?_))
    · refine ex_call (No.mono (k := 2) (by decide)) (hr.in1.deeper _) (xs_cons (ex_v 0) (xs_one ?_)) ⟨r, _, rfl, hR, fl.mono (by omega), rfl⟩
      refine Ex.pair (ex_call Lo (hr.in1.deeper _) (xs_cons (ex_v 0) (xs_cons (ex_v 1) (xs_cons ?_ (xs_one (ex_v 2))))) ⟨r, x, ⟨z.1, z.2⟩, y, rfl, hR, fz.mono (by omega), hy.mono (by omega), rfl⟩)
      exact Ex.pair (x := z.1) (y := z.2) (ex_v 7)
    · exact Ex.pair (x := z.1) (y := z.2) (ex_v 7)
  · rw [show (nearZ r x y).length - 1 = 3 from rfl, near_min hR hy0]
    rfl
theorem quot_fitN {r : Int} (hR : IsR r) {n k : Nat} {x y : Zw} (hx : FZ n x) (hy : FZ k y) (hy0 : y ≠ Rg.zero) : FZ (n + 3 * k + 40) (Rg.quot (RR r) x y) := by
  have e := near_min hR (x := x) hy0
  have h1 := (minAt_is ((nearZ r x y).map (keyZ r x y)) 3 (by show 3 < 4; omega)).1
  obtain ⟨z, hz⟩ : ∃ z, (nearZ r x y)[minAt ((nearZ r x y).map (keyZ r x y)) 3]? = some z := ⟨_, List.getElem?_eq_getElem (show _ < 4 by omega)⟩
  have e1 : (nearZ r x y).getD (minAt ((nearZ r x y).map (keyZ r x y)) 3) (0, 0) = z := by simp [hz]
  have f := near_fitN hR hx hy hy0 hz
  rw [e1] at e
  have e2 : (⟨z.1, z.2⟩ : Zw) = Rg.quot (RR r) x y := by rw [e]; rfl
  rw [← e2]
  exact f
theorem eqv_z (x y : Zw) : PyData.eqv (dz x).py (dz y).py = decide (x = y) := by
  have h : PyData.eqv (dz x).py (dz y).py = (decide (x.a = y.a) && (decide (x.b = y.b) && true)) := rfl
  rw [h, Bool.eq_iff_iff]
  simp only [Bool.and_eq_true, decide_eq_true_eq, and_true]
  constructor
  · rintro ⟨h1, h2⟩
    cases x
    cases y
    cases h1
    cases h2
    rfl
  · rintro rfl
    exact ⟨rfl, rfl⟩
section
variable {X : Cx} {ss : Ss} {ow : Ow} {e1 e2 : Expr} {pos : Pos} {k : Nat} {x y : Zw}
theorem tx_eqZ (hr : Room k X.A) (ha : Ex tb X e1 ss ow (dz x)) (hb : Ex tb X e2 ss ow (dz y)) : Tx tb X (.Compare e1 [.Eq] [e2] pos) ss ow (decide (x = y)) := (tx_eqD hr ha hb rfl rfl).cast (eqv_z x y)
theorem tx_neZ (hr : Room k X.A) (ha : Ex tb X e1 ss ow (dz x)) (hb : Ex tb X e2 ss ow (dz y)) : Tx tb X (.Compare e1 [.NotEq] [e2] pos) ss ow (!decide (x = y)) := (tx_neD hr ha hb rfl rfl).cast (by rw [eqv_z])
end
/-- a number times the units, one after the other -/
def turnZ (r : Int) (x : Zw) (k : Nat) : Zw := Rg.mul (RR r) x (Rg.pow (RR r) (Rg.unit1 (RR r)) k)
def fz (f : Bool) (z : Zw) : D := if f = true then kz z else dz z
theorem wk_fz (f : Bool) (z : Zw) : Wk (kz z) (fz f z) := by
  cases f with
  | true => exact .refl _
  | false => exact .key _ _
theorem turnZ_succ (r : Int) (x : Zw) (k : Nat) : turnZ r x (k + 1) = Rg.mul (RR r) (turnZ r x k) (Rg.unit1 (RR r)) := by
  unfold turnZ
  show Rg.mul _ x (Rg.mul _ _ _) = _
  rw [Rf.mul_assoc]
theorem turnZ_zero (r : Int) (x : Zw) : turnZ r x 0 = x := Rf.mul_one _ x
theorem fz_unit1 {r : Int} (hR : IsR r) : FZ 1 (Rg.unit1 (RR r)) := by
  rcases isR_cases hR with rfl | rfl | rfl | rfl | rfl <;> exact ⟨by decide, by decide⟩
theorem fz_turn {r : Int} (hR : IsR r) {n : Nat} {x : Zw} (hx : FZ n x) : ∀ k : Nat, FZ (n + 5 * k) (turnZ r x k)
  | 0 => by
    rw [turnZ_zero]
    exact hx
  | k + 1 => by
    rw [turnZ_succ]
    exact ((fz_turn hR hx k).mul hR (fz_unit1 hR)).mono (by omega)
def turns (r : Int) (f : Bool) (x : Zw) (n : Nat) : List D := (List.range n).map fun k => fz f (turnZ r x k)
theorem turns_succ (r : Int) (f : Bool) (x : Zw) (n : Nat) : turns r f x (n + 1) = turns r f x n ++ [fz f (turnZ r x n)] := by
  unfold turns
  rw [List.range_succ, List.map_append]
  rfl
def preTurned : List D → D → Prop := fun as d => ∃ (r : Int) (f : Bool) (x : Zw), as = [.int r, fz f x] ∧ IsR r ∧ FZ 900000 x ∧ d = .lst (turns r f x (Rg.unitsOf (RR r)))
theorem sc_turned : FnScope ["r", "x", "turns"] ["r", "x"] (defScope s_turned) := ⟨rfl, rfl, rfl, by decide +kernel, rfl, by decide +kernel, by decide +kernel⟩
theorem units_bounds {r : Int} (hR : IsR r) : 2 ≤ Rg.unitsOf (RR r) ∧ Rg.unitsOf (RR r) ≤ 6 := by
  rcases isR_cases hR with rfl | rfl | rfl | rfl | rfl <;> decide
theorem atI_snoc {α : Type} (l : List α) (x : α) : atI (l ++ [x]) (-1) = some x := atI_last l x
def gD (r : Int) : D := dz (Rg.unit1 (RR r))
theorem atI_g {r : Int} (h : IsR r) : atI [dz ⟨0, 1⟩, dz ⟨-1, 0⟩, dz ⟨0, 1⟩, dz ⟨-1, 0⟩, dz ⟨-1, 0⟩] r = some (gD r) := by
  rcases isR_cases h with rfl | rfl | rfl | rfl | rfl <;> rfl
theorem ok_turned (F : FunAt K mg "turned" s_turned) (hl : mg "len" = none) (U : CT K mg "UNITS_OF_RING" (tabD [4, 2, 6, 2, 2])) (Gc : CT K mg "G_OF_RING" (.tup [dz ⟨0, 1⟩, dz ⟨-1, 0⟩, dz ⟨0, 1⟩, dz ⟨-1, 0⟩, dz ⟨-1, 0⟩])) (Pr : Fx P w K mg base tb "product" 1 3 preProduct) :
    Fx P w K mg base tb "turned" 2 2 preTurned := by
  obtain ⟨f, fd, F, hm⟩ := F
  refine fx_of F hm (F.binds (ps := ["r", "x"]) fun _ _ _ _ _ _ us hl => match us, hl with | [_, _], _ => rfl) sc_turned rfl (fun cdv A outer s H E args d hr hn hp => ?_)
  obtain ⟨r, g, x, rfl, hR, hx, rfl⟩ := hp
  have hB := BIG_eq
  obtain ⟨u2, u6⟩ := units_bounds hR
  have hu := uOf_units hR
  have hone : [fz g x] = turns r g x 1 := by
    show _ = [fz g (turnZ r x 0)]
    rw [turnZ_zero]
  refine bx_cons (sx_own 2 (xs_one (ex_v 1)) sc_turned.nd) ?_
  refine bx_cons (sx_while (fun m ss ow => ∃ j, j + 1 ≤ Rg.unitsOf (RR r) ∧ m = Rg.unitsOf (RR r) - (j + 1) ∧ ss = [some (.int r), some (fz g x), none] ∧ ow = .lst 2 (turns r g x (j + 1))) (fun ss ow => ss = [some (.int r), some (fz g x), none] ∧ ow = .lst 2 (turns r g x (Rg.unitsOf (RR r))))
    PassesOwn.never ?_ (m := Rg.unitsOf (RR r) - 1) ⟨0, by omega, rfl, rfl, by rw [hone]⟩ (ss' := [some (.int r), some (fz g x), none]) (ow' := .lst 2 (turns r g x (Rg.unitsOf (RR r)))) ?_) (bx_one sx_retOwn)
  · rintro m ss ow ⟨j, hj, rfl, rfl, rfl⟩
    have hlen : (turns r g x (j + 1)).length = j + 1 := by simp [turns]
    have lastT : atI (turns r g x (j + 1)) (-1) = some (fz g (turnZ r x j)) := by
      rw [turns_succ]
      exact atI_snoc _ _
    have wk : Wk (fz g (turnZ r x j)) (dz (turnZ r x j)) := by
      cases g with
      | true => exact .key _ _
      | false => exact .refl _
    refine ⟨_, tx_lt (ex_ownLen (i := 2) (hm := hl)) (ex_ixT (ex_ct U) (ex_v 0) (atI_tab D.int hR)), fun h => ?_, fun h => ?_⟩
    · have h' : ¬ ((turns r g x (j + 1)).length : Int) < uOf r := of_decide_eq_false h
      rw [hlen, hu] at h'
      have e : j + 1 = Rg.unitsOf (RR r) := by omega
      exact ⟨rfl, by rw [e]⟩
    · have h' : ((turns r g x (j + 1)).length : Int) < uOf r := of_decide_eq_true h
      rw [hlen, hu] at h'
      refine ⟨Rg.unitsOf (RR r) - (j + 1 + 1), _, _, by omega, ⟨j + 1, by omega, rfl, rfl, rfl⟩, ?_⟩
      rw [turns_succ r g x (j + 1), turnZ_succ]
      exact bx_one (sx_append 2 (Ex.wk (ex_call Pr hr (xs_cons (ex_v 0) (xs_cons (Ex.wk (ex_ownIx (ex_neg ex_int) lastT) wk) (xs_one (ex_ixT (ex_ct Gc) (ex_v 0) (atI_g hR))))) ⟨r, _, _, rfl, hR, (fz_turn hR hx j).mono (by omega), (fz_unit1 hR).mono (by omega), rfl⟩) (wk_fz g _)) (by rw [hlen]; omega))
  · rintro ss ow ⟨rfl, rfl⟩
    exact ⟨SubS.refl _, rfl⟩
def preUnit : List D → D → Prop := fun as d => ∃ r k : Int, as = [.int r, .int k] ∧ IsR r ∧ d = dz (Rg.pow (RR r) (Rg.unit1 (RR r)) (k % (Rg.unitsOf (RR r) : Int)).toNat)
theorem sc_unit_of : FnScope ["r", "k"] ["r", "k"] (defScope s_unit_of) := ⟨rfl, rfl, rfl, by decide +kernel, rfl, by decide +kernel, by decide +kernel⟩
theorem ok_unit_of (F : FunAt K mg "unit_of" s_unit_of) (U : CT K mg "UNITS_OF_RING" (tabD [4, 2, 6, 2, 2])) (O : CT K mg "ONE" (dz Rg.one)) (Tn : Fx P w K mg base tb "turned" 2 2 preTurned) : Fx P w K mg base tb "unit_of" 3 2 preUnit := by
  obtain ⟨f, fd, F, hm⟩ := F
  refine fx_of F hm (F.binds (ps := ["r", "k"]) fun _ _ _ _ _ _ us hl => match us, hl with | [_, _], _ => rfl) sc_unit_of rfl (fun cdv A outer s H E args d hr hn hp => ?_)
  obtain ⟨r, k, rfl, hR, rfl⟩ := hp
  have hu := uOf_units hR
  obtain ⟨u2, u6⟩ := units_bounds hR
  have hpos : 0 < uOf r := by omega
  refine bx_one (sx_ret (ex_ixL (ex_call Tn hr (xs_cons (ex_v 0) (xs_one (ex_ct O))) ⟨r, false, Rg.one, rfl, hR, fz_one.mono (by omega), rfl⟩) (ex_mod (ex_v 1) (ex_ixT (ex_ct U) (ex_v 0) (atI_tab D.int hR)) hpos) ?_))
  have hi0 := Int.emod_nonneg k (show uOf r ≠ 0 by omega)
  have hi1 := Int.emod_lt_of_pos k hpos
  have e : k % uOf r = (((k % (Rg.unitsOf (RR r) : Int)).toNat : Nat) : Int) := by
    rw [← hu]
    omega
  show atI _ (k % uOf r) = _
  rw [e]
  refine atI_nat ?_
  have hlt : (k % (Rg.unitsOf (RR r) : Int)).toNat < Rg.unitsOf (RR r) := by
    rw [hu] at hi0 hi1
    omega
  unfold turns
  rw [List.getElem?_map, List.getElem?_range hlt]
  show some (dz (turnZ r Rg.one _)) = _
  unfold turnZ
  rw [Rf.one_mul]
theorem bestAt_is (l : List (Int × Int)) : ∀ k : Nat, k < l.length → bestAt l k ≤ k ∧ ∀ i : Nat, i ≤ k → gtP (l.getD i (0, 0)) (l.getD (bestAt l k) (0, 0)) = false
  | 0, _ => ⟨Nat.le_refl _, fun i hi => by
    have e : i = 0 := by omega
    subst e
    show gtP _ (l.getD 0 (0, 0)) = false
    simp [gtP]⟩
  | k + 1, h => by
    obtain ⟨h1, h2⟩ := bestAt_is l k (by omega)
    have un : bestAt l (k + 1) = if gtP (l.getD (k + 1) (0, 0)) (l.getD (bestAt l k) (0, 0)) = true then k + 1 else bestAt l k := rfl
    cases q : gtP (l.getD (k + 1) (0, 0)) (l.getD (bestAt l k) (0, 0)) with
    | true =>
      rw [un, q, if_pos rfl]
      refine ⟨Nat.le_refl _, fun i hi => ?_⟩
      by_cases e : i = k + 1
      · subst e
        simp [gtP]
      · have z := h2 i (by omega)
        simp only [gtP, decide_eq_false_iff_not, decide_eq_true_eq] at z q ⊢
        omega
    | false =>
      rw [un, q, if_neg Bool.false_ne_true]
      refine ⟨by omega, fun i hi => ?_⟩
      by_cases e : i = k + 1
      · subst e
        exact q
      · exact h2 i (by omega)
def turnP (r : Int) (x : Zw) : List (Int × Int) := (List.range (Rg.unitsOf (RR r))).map fun k => pz (turnZ r x k)
theorem turns_pairs (r : Int) (f : Bool) (x : Zw) : turns r f x (Rg.unitsOf (RR r)) = (turnP r x).map (if f = true then zpK else zpD) := by
  unfold turns turnP
  rw [List.map_map]
  cases f <;> rfl
theorem fz_cases (f : Bool) : (if f = true then zpK else zpD) = zpD ∨ (if f = true then zpK else zpD) = zpK := by
  cases f
  · exact .inl rfl
  · exact .inr rfl
theorem mem_turn {r : Int} (hR : IsR r) (x : Zw) {u : Zw} (hu : Rg.norm (RR r) u = 1) : ∃ k, k < Rg.unitsOf (RR r) ∧ Rg.mul (RR r) x u = turnZ r x k := by
  have h := (Rf.mem_units (RR_ok hR)).mpr hu
  unfold Rg.units at h
  obtain ⟨k, hk, rfl⟩ := List.mem_map.mp h
  exact ⟨k, List.mem_range.mp hk, rfl⟩
theorem turn_unit {r : Int} (hR : IsR r) {k : Nat} (hk : k < Rg.unitsOf (RR r)) : Rg.norm (RR r) (Rg.pow (RR r) (Rg.unit1 (RR r)) k) = 1 :=
  (Rf.mem_units (RR_ok hR)).mp (List.mem_map.mpr ⟨k, List.mem_range.mpr hk, rfl⟩)
theorem turnP_len (r : Int) (x : Zw) : (turnP r x).length = Rg.unitsOf (RR r) := by simp [turnP]
theorem turnP_at (r : Int) (x : Zw) {k : Nat} (hk : k < Rg.unitsOf (RR r)) : (turnP r x)[k]? = some (pz (turnZ r x k)) := by
  unfold turnP
  rw [List.getElem?_map, List.getElem?_range hk]
  rfl
theorem turnP_best {r : Int} (hR : IsR r) (x : Zw) : (turnP r x).getD (bestAt (turnP r x) ((turnP r x).length - 1)) (0, 0) = pz (Rg.form (RR r) x) := by
  obtain ⟨u2, u6⟩ := units_bounds hR
  have hl := turnP_len r x
  obtain ⟨h1, h2⟩ := bestAt_is (turnP r x) ((turnP r x).length - 1) (by omega)
  have hb : bestAt (turnP r x) ((turnP r x).length - 1) < Rg.unitsOf (RR r) := by omega
  generalize bestAt (turnP r x) ((turnP r x).length - 1) = m at h1 h2 hb
  have e : (turnP r x).getD m (0, 0) = pz (turnZ r x m) := by simp [turnP_at r x hb]
  rw [e]
  refine congrArg pz (Rf.form_unique (RR_ok hR) ⟨_, turn_unit hR hb, rfl⟩ fun u hu => ?_)
  obtain ⟨k, hk, ek⟩ := mem_turn hR x hu
  rw [ek]
  have z := h2 k (by omega)
  have e2 : (turnP r x).getD k (0, 0) = pz (turnZ r x k) := by simp [turnP_at r x hk]
  rw [e, e2] at z
  have z' : ¬ ((turnZ r x m).a < (turnZ r x k).a ∨ ((turnZ r x m).a = (turnZ r x k).a ∧ (turnZ r x m).b < (turnZ r x k).b)) := of_decide_eq_false z
  rcases Rf.before_total (turnZ r x k) (turnZ r x m) with q | q | q
  · exact .inl q
  · exact .inr q
  · exfalso
    rw [Rf.before_iff] at q
    exact z' q
theorem fz_form {r : Int} (hR : IsR r) {n : Nat} {x : Zw} (hx : FZ n x) : FZ (n + 30) (Rg.form (RR r) x) := by
  obtain ⟨u, hu, e⟩ := Rf.form_is (RR_ok hR) x
  obtain ⟨k, hk, ek⟩ := mem_turn hR x hu
  rw [e, ek]
  have := (units_bounds hR).2
  exact (fz_turn hR hx k).mono (by omega)
def preForm : List D → D → Prop := fun as d => ∃ (r : Int) (f : Bool) (x : Zw), as = [.int r, fz f x] ∧ IsR r ∧ FZ 900000 x ∧ d = fz f (Rg.form (RR r) x)
theorem sc_form_of : FnScope ["r", "x"] ["r", "x"] (defScope s_form_of) := ⟨rfl, rfl, rfl, by decide +kernel, rfl, by decide +kernel, by decide +kernel⟩
theorem ok_form_of (F : FunAt K mg "form_of" s_form_of) (hmx : mg "max" = none) (Tn : Fx P w K mg base tb "turned" 2 2 preTurned) : Fx P w K mg base tb "form_of" 3 2 preForm := by
  obtain ⟨f, fd, F, hm⟩ := F
  refine fx_of F hm (F.binds (ps := ["r", "x"]) fun _ _ _ _ _ _ us hl => match us, hl with | [_, _], _ => rfl) sc_form_of rfl (fun cdv A outer s H E args d hr hn hp => ?_)
  obtain ⟨r, g, x, rfl, hR, hx, rfl⟩ := hp
  have hu := (units_bounds hR).1
  have hl := turnP_len r x
  refine bx_one (sx_ret (ex_max (ps := turnP r x) (f := if g = true then zpK else zpD) (fz_cases g) hmx hr rfl (Ex.cast (ex_call Tn hr (xs_cons (ex_v 0) (xs_one (ex_v 1))) ⟨r, g, x, rfl, hR, hx, rfl⟩) (congrArg D.lst (turns_pairs r g x))) (by omega) ?_))
  rw [turnP_best hR]
  cases g <;> rfl
def preFormBy : List D → D → Prop := fun as d => ∃ (r : Int) (x : Zw), as = [.int r, dz x] ∧ IsR r ∧ FZ 900000 x ∧ d = .int (Rg.formBy (RR r) x : Nat)
theorem sc_turns_to_form : FnScope ["r", "x"] ["r", "x"] (defScope s_turns_to_form) := ⟨rfl, rfl, rfl, by decide +kernel, rfl, by decide +kernel, by decide +kernel⟩
theorem ok_turns_to_form (F : FunAt K mg "turns_to_form" s_turns_to_form) (Tn : Fx P w K mg base tb "turned" 2 2 preTurned) (Fm : Fx P w K mg base tb "form_of" 3 2 preForm) : Fx P w K mg base tb "turns_to_form" 4 2 preFormBy := by
  obtain ⟨f, fd, F, hm⟩ := F
  refine fx_of F hm (F.binds (ps := ["r", "x"]) fun _ _ _ _ _ _ us hl => match us, hl with | [_, _], _ => rfl) sc_turns_to_form rfl (fun cdv A outer s H E args d hr hn hp => ?_)
  obtain ⟨r, x, rfl, hR, hx, rfl⟩ := hp
  obtain ⟨b1, b2, b3⟩ := Rf.formBy_is (RR_ok hR) x
  refine bx_one (sx_ret (ex_index (ps := turnP r x) (f := zpD) (g := zpD) (.inl rfl) (.inl rfl) (q := pz (Rg.form (RR r) x)) hr (Ex.cast (ex_call (Tn.mono (k := 3) (by decide)) hr (xs_cons (ex_v 0) (xs_one (ex_v 1))) ⟨r, false, x, rfl, hR, hx, rfl⟩) (congrArg D.lst (turns_pairs r false x)))
    (ex_call Fm hr (xs_cons (ex_v 0) (xs_one (ex_v 1))) ⟨r, false, x, rfl, hR, hx, rfl⟩) ?_ ?_))
  · rw [turnP_at r x b1]
    exact congrArg (fun z => some (pz z)) b2
  · intro m hm z
    rw [turnP_at r x (by omega)] at z
    have z2 : pz (turnZ r x m) = pz (Rg.form (RR r) x) := Option.some.inj z
    refine b3 m hm ?_
    simp only [pz, Prod.mk.injEq] at z2
    show turnZ r x m = _
    generalize turnZ r x m = p at z2
    generalize Rg.form (RR r) x = q at z2
    cases p
    cases q
    simp only at z2
    rw [z2.1, z2.2]
theorem fz_of_norm {r : Int} (hR : IsR r) {n : Nat} {x : Zw} (h : Fit n (Rg.norm (RR r) x)) : FZ (n + 6) x := by
  unfold Fit at h
  have h0 := Rf.norm_nonneg (RR_ok hR) x
  have sq : ∀ i : Int, (i.natAbs : Int) ≤ i * i := fun i => by
    have e : i * i = ((i.natAbs * i.natAbs : Nat) : Int) := by rw [Int.natCast_mul, Int.natAbs_mul_self']
    rw [e]
    exact Int.ofNat_le.mpr (Nat.le_mul_self _)
  have key : x.a.natAbs ≤ 4 * (Rg.norm (RR r) x).natAbs ∧ x.b.natAbs ≤ 4 * (Rg.norm (RR r) x).natAbs := by
    have h3 := sq x.b
    have e := Rf.four_norm (RR r) x
    generalize Rg.norm (RR r) x = N at e h0
    have h2 := sq (2 * x.a + (RR r).t * x.b)
    have hs := Rf.sq_nonneg x.b
    have hs2 := Rf.sq_nonneg (2 * x.a + (RR r).t * x.b)
    rcases RR_ok hR with ⟨e1, e2⟩ | ⟨e1, e2⟩ | ⟨e1, e2⟩ | ⟨e1, e2⟩ | ⟨e1, e2⟩ <;> rw [e1] at e h2 hs2 <;> rw [e2] at e <;> clear e1 e2 <;> generalize x.b * x.b = B at * <;> simp only [Int.zero_mul, Int.one_mul, Int.add_zero] at e h2 hs2
    · generalize (2 * x.a) * (2 * x.a) = A at *
      omega
    · generalize (2 * x.a) * (2 * x.a) = A at *
      omega
    · generalize (2 * x.a + x.b) * (2 * x.a + x.b) = A at *
      omega
    · generalize (2 * x.a + x.b) * (2 * x.a + x.b) = A at *
      omega
    · generalize (2 * x.a + x.b) * (2 * x.a + x.b) = A at *
      omega
  have p : 2 ^ (n + 6) = 64 * 2 ^ n := by rw [Nat.pow_add]; omega
  constructor
  · show x.a.natAbs < 2 ^ (n + 6)
    omega
  · show x.b.natAbs < 2 ^ (n + 6)
    omega
theorem rest_fit {r : Int} (hR : IsR r) {n : Nat} {x y : Zw} (hy : FZ n y) (h0 : y ≠ Rg.zero) : FZ (2 * n + 10) (Rg.rest (RR r) x y) := by
  refine fz_of_norm hR (n := 2 * n + 4) ?_
  have a := Rf.rest_norm_lt (RR_ok hR) (x := x) h0
  have b := Rf.norm_nonneg (RR_ok hR) (Rg.rest (RR r) x y)
  have c := hy.norm hR
  unfold Fit at *
  omega
def mD (m : Rg.Made) : D := .tup [dz m.d, dz m.u, dz m.v]
def preGcd : List D → D → Prop := fun as d => ∃ (r : Int) (x y : Zw), as = [.int r, dz x, dz y] ∧ IsR r ∧ FZ 60 x ∧ FZ 60 y ∧ d = .lst [dz (Rg.gcd (RR r) x y).d, dz (Rg.gcd (RR r) x y).u, dz (Rg.gcd (RR r) x y).v]
theorem sc_common_divisor : FnScope ["r", "x", "y", "before", "last", "q", "following", "g_power", "place", "number"] ["r", "x", "y"] (defScope s_common_divisor) := ⟨rfl, rfl, rfl, by decide +kernel, rfl, by decide +kernel, by decide +kernel⟩
theorem steps_le {r : Int} (hR : IsR r) {x y : Zw} (hx : FZ 60 x) (hy : FZ 60 y) : Rg.stepsFor (RR r) x y ≤ 2000 := by
  have l : ∀ z : Zw, FZ 60 z → (Rg.norm (RR r) z).natAbs.log2 ≤ 124 := fun z hz => by
    have f := hz.norm hR
    by_cases e : (Rg.norm (RR r) z).natAbs = 0
    · rw [e]
      decide
    · have := (Nat.log2_lt e).mpr f
      omega
  have := l x hx
  have := l y hy
  unfold Rg.stepsFor
  omega
/-- what stands between two turns of the loop -/
structure GcdW (r : Int) (x y : Zw) (f : Nat) (m n : Rg.Made) : Prop where
  ends : Rf.Ends (RR r) f m n
  dm : FZ 130 m.d
  dn : FZ 130 n.d
  nn : Fit 124 (Rg.norm (RR r) n.d)
  sz : ∃ s, s + 570 * f ≤ 1200000 ∧ FZ s m.u ∧ FZ s m.v ∧ FZ s n.u ∧ FZ s n.v
  run : Rf.run (RR r) m n = Rf.run (RR r) ⟨x, Rg.one, Rg.zero⟩ ⟨y, Rg.zero, Rg.one⟩
theorem GcdW.start {r : Int} (hR : IsR r) {x y : Zw} (hx : FZ 60 x) (hy : FZ 60 y) : GcdW r x y (Rg.stepsFor (RR r) x y) ⟨x, Rg.one, Rg.zero⟩ ⟨y, Rg.zero, Rg.one⟩ := by
  have h := steps_le hR hx hy
  have f1 : FZ 1 Rg.one := ⟨by decide, by decide⟩
  have f0 : FZ 1 Rg.zero := ⟨by decide, by decide⟩
  exact ⟨Rf.steps_enough (RR_ok hR) x y _ _ _ _, hx.mono (by omega), hy.mono (by omega), (hy.norm hR).mono (by omega), ⟨1, by omega, f1, f0, f0, f1⟩, rfl⟩
theorem GcdW.step {r : Int} (hR : IsR r) {x y : Zw} {f : Nat} {m n : Rg.Made} (h : GcdW r x y f m n) (h0 : n.d ≠ Rg.zero) : ∃ g, f = g + 1 ∧ GcdW r x y g n (m.less (RR r) n (Rg.quot (RR r) m.d n.d)) := by
  obtain ⟨h1, h2, h3, h4, ⟨s, hs, s1, s2, s3, s4⟩, h6⟩ := h
  match f, h1, hs with
  | 0, h1, hs => exact absurd h1 h0
  | g + 1, h1, hs =>
    refine ⟨g, rfl, h1.resolve_left h0, h3, ?_, ?_, ⟨s + 565, by omega, s3.mono (by omega), s4.mono (by omega), ?_, ?_⟩, ?_⟩
    · refine fz_of_norm hR (n := 124) ?_
      have a := Rf.rest_norm_lt (RR_ok hR) (x := m.d) h0
      have b := Rf.norm_nonneg (RR_ok hR) (Rg.rest (RR r) m.d n.d)
      unfold Fit at *
      show (Rg.norm (RR r) (Rg.rest (RR r) m.d n.d)).natAbs < _
      omega
    · have a := Rf.rest_norm_lt (RR_ok hR) (x := m.d) h0
      have b := Rf.norm_nonneg (RR_ok hR) (Rg.rest (RR r) m.d n.d)
      unfold Fit at *
      show (Rg.norm (RR r) (Rg.rest (RR r) m.d n.d)).natAbs < _
      omega
    · have fq := quot_fitN hR h2 h3 h0
      exact ((s1.mono (show s ≤ s + 564 by omega)).less ((fq.mul hR s3).mono (show _ ≤ s + 564 by omega))).mono (by omega)
    · have fq := quot_fitN hR h2 h3 h0
      exact ((s2.mono (show s ≤ s + 564 by omega)).less ((fq.mul hR s4).mono (show _ ≤ s + 564 by omega))).mono (by omega)
    · rw [← h6]
      exact (Rf.run_step (RR_ok hR) m n h0).symm
theorem GcdW.fin {r : Int} (hR : IsR r) {x y : Zw} : ∀ (f : Nat) (m n : Rg.Made), GcdW r x y f m n → FZ 130 (Rf.run (RR r) ⟨x, Rg.one, Rg.zero⟩ ⟨y, Rg.zero, Rg.one⟩).d ∧ FZ 1200000 (Rf.run (RR r) ⟨x, Rg.one, Rg.zero⟩ ⟨y, Rg.zero, Rg.one⟩).u ∧ FZ 1200000 (Rf.run (RR r) ⟨x, Rg.one, Rg.zero⟩ ⟨y, Rg.zero, Rg.one⟩).v := by
  intro f
  induction f with
  | zero =>
    intro m n h
    have h0 : n.d = Rg.zero := h.ends
    rw [← h.run, Rf.run_zero m n h0]
    obtain ⟨z, hz, u1, u2, _, _⟩ := h.sz
    exact ⟨h.dm, u1.mono (by omega), u2.mono (by omega)⟩
  | succ f ih =>
    intro m n h
    by_cases h0 : n.d = Rg.zero
    · rw [← h.run, Rf.run_zero m n h0]
      obtain ⟨z, hz, u1, u2, _, _⟩ := h.sz
      exact ⟨h.dm, u1.mono (by omega), u2.mono (by omega)⟩
    · obtain ⟨g, e, h'⟩ := h.step hR h0
      obtain rfl : f = g := by omega
      exact ih _ _ h'
def gcdF (R : Ring) (m n : Rg.Made) (q : Zw) : D → Option D
  | .int 0 => some (dz (Rg.less m.d (Rg.mul R q n.d)))
  | .int 1 => some (dz (Rg.less m.u (Rg.mul R q n.u)))
  | .int 2 => some (dz (Rg.less m.v (Rg.mul R q n.v)))
  | _ => none
def mulF (R : Ring) (g : Zw) : D → Option D
  | .tup [.int a, .int b] => some (dz (Rg.mul R ⟨a, b⟩ g))
  | _ => none
theorem ok_common_divisor (F : FunAt K mg "common_divisor" s_common_divisor) (c1 : CT K mg "ONE" (dz Rg.one)) (c2 : CT K mg "ZERO" (dz Rg.zero)) (hrange : mg "range" = none) (htup : mg "tuple" = none) (Pr : Fx P w K mg base tb "product" 1 3 preProduct) (Lo : Fx P w K mg base tb "left_over" 2 4 preLeft)
    (Un : Fx P w K mg base tb "unit_of" 3 2 preUnit) (Ft : Fx P w K mg base tb "turns_to_form" 4 2 preFormBy) (Qu : Fx P w K mg base tb "quotient" 5 3 preQuot) : Fx P w K mg base tb "common_divisor" 6 3 preGcd := by
  obtain ⟨f, fd, F, hm⟩ := F
  refine fx_of F hm (F.binds (ps := ["r", "x", "y"]) fun _ _ _ _ _ _ us hl => match us, hl with | [_, _, _], _ => rfl) sc_common_divisor rfl (fun cdv A outer s H E args d hr hn hp => ?_)
  obtain ⟨r, x, y, rfl, hR, hx, hy, rfl⟩ := hp
  have hB := BIG_eq
  refine bx_cons (sx_set 3 (ex_tup (xs_cons (ex_v 1) (xs_cons (ex_ct c1) (xs_one (ex_ct c2))))) sc_common_divisor.nd) ?_
  refine bx_cons (sx_set 4 (ex_tup (xs_cons (ex_v 2) (xs_cons (ex_ct c2) (xs_one (ex_ct c1))))) sc_common_divisor.nd) ?_
  have hg := Rf.gcd_run (RR_ok hR) x y
  obtain ⟨q1, q2, q3⟩ := (GcdW.start hR hx hy).fin hR
  obtain ⟨m0, hm0⟩ : ∃ m0, m0 = Rf.run (RR r) ⟨x, Rg.one, Rg.zero⟩ ⟨y, Rg.zero, Rg.one⟩ := ⟨_, rfl⟩
  rw [← hm0] at q1 q2 q3 hg
  refine bx_cons (sx_while (fun k ss ow => ∃ m n a b, GcdW r x y k m n ∧ ss = [some (.int r), some (dz x), some (dz y), some (mD m), some (mD n), a, b, none, none, none] ∧ ow = .no) (fun ss ow => ∃ a b c, ss = [some (.int r), some (dz x), some (dz y), some (mD m0), a, b, c, none, none, none] ∧ ow = .no)
    PassesOwn.never ?_ (m := Rg.stepsFor (RR r) x y) ⟨_, _, none, none, GcdW.start hR hx hy, rfl, rfl⟩ (ss' := [some (.int r), some (dz x), some (dz y), some (mD m0), none, none, none, none, none, none]) (ow' := .no) ?_) ?_
  · rintro k ss ow ⟨m, n, a, b, hW, rfl, rfl⟩
    refine ⟨_, tx_neZ hr (ex_ixT (ex_v 4) ex_int (by rfl)) (ex_ct c2), fun h => ?_, fun h => ?_⟩
    · have h0 : n.d = Rg.zero := by simpa using h
      have e : m = m0 := by rw [hm0, ← hW.run, Rf.run_zero m n h0]
      subst e
      exact ⟨_, _, _, rfl, rfl⟩
    · have h0 : n.d ≠ Rg.zero := by simpa using h
      obtain ⟨g, rfl, hW'⟩ := hW.step hR h0
      obtain ⟨z, hz, u1, u2, u3, u4⟩ := hW.sz
      have fq := quot_fitN hR hW.dm hW.dn h0
      refine ⟨g, _, .no, by omega, ⟨n, _, some (dz (Rg.quot (RR r) m.d n.d)), some (mD (m.less (RR r) n (Rg.quot (RR r) m.d n.d))), hW', rfl, rfl⟩, ?_⟩
      refine bx_cons (sx_set 5 (Ex.pair (ex_call Qu hr (xs_cons (ex_v 0) (xs_cons (ex_ixT (ex_v 3) ex_int (by rfl)) (xs_one (ex_ixT (ex_v 4) ex_int (by rfl))))) ⟨r, m.d, n.d, rfl, hR, hW.dm.mono (by omega), hW.dn.mono (by omega), h0, rfl⟩)) sc_common_divisor.nd) ?_
      refine bx_cons (sx_set 6 (ex_tupOf htup (ex_lcR (n := 3) (j := 8) rfl sc_common_divisor.nd hrange ex_int (blkOk_by (by rfl)) (gcdF (RR r) m n (Rg.quot (RR r) m.d n.d)) (by show 8 < 10; omega) (by omega) (fun i hi => ?_))) sc_common_divisor.nd) ?_
      · obtain ⟨a1, b1, e1, e2, fb, e3⟩ : ∃ a1 b1, atI [dz m.d, dz m.u, dz m.v] (i : Int) = some (dz a1) ∧ atI [dz n.d, dz n.u, dz n.v] (i : Int) = some (dz b1) ∧ FZ 1200000 b1 ∧ gcdF (RR r) m n (Rg.quot (RR r) m.d n.d) (.int i) = some (dz (Rg.less a1 (Rg.mul (RR r) (Rg.quot (RR r) m.d n.d) b1))) := by
          match i, hi with
          | 0, _ => exact ⟨_, _, rfl, rfl, hW.dn.mono (by omega), rfl⟩
          | 1, _ => exact ⟨_, _, rfl, rfl, u3.mono (by omega), rfl⟩
          | 2, _ => exact ⟨_, _, rfl, rfl, u4.mono (by omega), rfl⟩
        rw [e3]
        rintro X' ⟨s1, H1, C1, cl1, fp1, rfl⟩
        refine ⟨pts_yes, Ex.pair (ex_call (Lo.mono (k := 5) (by decide)) hr (xs_cons (ex_v 0) (xs_cons (ex_ixT (ex_v 3) (ex_v 8) e1) (xs_cons (ex_v 5) (xs_one (ex_ixT (ex_v 4) (ex_v 8) e2))))) ⟨r, a1, _, b1, rfl, hR, fq.mono (by omega), fb.mono (by omega), rfl⟩)⟩
      refine bx_cons (sx_set 3 (ex_v 4) sc_common_divisor.nd) ?_
      exact bx_one (sx_set 4 (ex_v 6) sc_common_divisor.nd)
  · rintro ss ow ⟨a, b, c, rfl, rfl⟩
    exact ⟨⟨rfl, rfl, rfl, rfl, trivial⟩, rfl⟩
  · have fb := (Rf.formBy_is (RR_ok hR) m0.d).1
    have ek : (((Rg.formBy (RR r) m0.d : Nat) : Int) % (Rg.unitsOf (RR r) : Int)).toNat = Rg.formBy (RR r) m0.d := by
      rw [Int.emod_eq_of_lt (by omega) (by omega)]
      omega
    have fg : FZ 32 (Rg.pow (RR r) (Rg.unit1 (RR r)) (Rg.formBy (RR r) m0.d)) := by
      have := fz_turn hR fz_one (Rg.formBy (RR r) m0.d)
      unfold turnZ at this
      rw [Rf.one_mul] at this
      have u6 := (units_bounds hR).2
      exact this.mono (by omega)
    refine bx_cons (sx_set 7 (d := dz (Rg.pow (RR r) (Rg.unit1 (RR r)) (Rg.formBy (RR r) m0.d))) (Ex.cast (ex_call (Un.mono (k := 5) (by decide)) hr (xs_cons (ex_v 0) (xs_one (ex_call (Ft.mono (k := 5) (by decide)) hr (xs_cons (ex_v 0) (xs_one (ex_ixT (ex_v 3) ex_int (by rfl)))) ⟨r, m0.d, rfl, hR, q1.mono (by omega), rfl⟩))) ⟨r, _, rfl, hR, rfl⟩) (by rw [ek])) sc_common_divisor.nd) ?_
    refine bx_one (sx_ret (Ex.cast (ex_lcT (ds := [dz m0.d, dz m0.u, dz m0.v]) (j := 9) rfl sc_common_divisor.nd (ex_v 3) (blkOk_by (by rfl)) (mulF (RR r) (Rg.pow (RR r) (Rg.unit1 (RR r)) (Rg.formBy (RR r) m0.d))) (by show 9 < 10; omega) (by show 3 < _; omega) (fun d hd => ?_)) ?_))
    · obtain ⟨z, rfl, hz⟩ : ∃ z, d = dz z ∧ FZ 1200000 z := by
        simp only [List.mem_cons, List.not_mem_nil, or_false] at hd
        rcases hd with rfl | rfl | rfl
        · exact ⟨_, rfl, q1.mono (by omega)⟩
        · exact ⟨_, rfl, q2⟩
        · exact ⟨_, rfl, q3⟩
      show LcTurn _ _ _ _ _ _ _ _ (some (dz (Rg.mul (RR r) z (Rg.pow (RR r) (Rg.unit1 (RR r)) (Rg.formBy (RR r) m0.d)))))
      rintro X' ⟨s1, H1, C1, cl1, fp1, rfl⟩
      refine ⟨pts_yes, Ex.pair (ex_call (Pr.mono (k := 5) (by decide)) hr (xs_cons (ex_v 0) (xs_cons (ex_v 9) (xs_one (ex_v 7)))) ⟨r, z, _, rfl, hR, hz.mono (by omega), fg.mono (by omega), rfl⟩)⟩
    · rw [hg]
      rfl
theorem gcd_fit {r : Int} (hR : IsR r) {x y : Zw} (hx : FZ 60 x) (hy : FZ 60 y) : FZ 200 (Rg.gcd (RR r) x y).d ∧ FZ 1300000 (Rg.gcd (RR r) x y).u ∧ FZ 1300000 (Rg.gcd (RR r) x y).v := by
  have hg := Rf.gcd_run (RR_ok hR) x y
  obtain ⟨q1, q2, q3⟩ := (GcdW.start hR hx hy).fin hR
  generalize Rf.run (RR r) ⟨x, Rg.one, Rg.zero⟩ ⟨y, Rg.zero, Rg.one⟩ = m0 at *
  have fb := (Rf.formBy_is (RR_ok hR) m0.d).1
  have fg : FZ 32 (Rg.pow (RR r) (Rg.unit1 (RR r)) (Rg.formBy (RR r) m0.d)) := by
    have := fz_turn hR fz_one (Rg.formBy (RR r) m0.d)
    unfold turnZ at this
    rw [Rf.one_mul] at this
    have u6 := (units_bounds hR).2
    exact this.mono (by omega)
  rw [hg]
  exact ⟨(q1.mul hR fg).mono (by omega), (q2.mul hR fg).mono (by omega), (q3.mul hR fg).mono (by omega)⟩
def preRest : List D → D → Prop := fun as d => ∃ (r : Int) (x y : Zw), as = [.int r, dz x, dz y] ∧ IsR r ∧ FZ 2000000 x ∧ FZ 4000 y ∧ y ≠ Rg.zero ∧ d = kz (Rg.rest (RR r) x y)
theorem sc_rest_of : FnScope ["r", "x", "y"] ["r", "x", "y"] (defScope s_rest_of) := ⟨rfl, rfl, rfl, by decide +kernel, rfl, by decide +kernel, by decide +kernel⟩
theorem ok_rest_of (F : FunAt K mg "rest_of" s_rest_of) (Lo : Fx P w K mg base tb "left_over" 2 4 preLeft) (Qu : Fx P w K mg base tb "quotient" 5 3 preQuot) : Fx P w K mg base tb "rest_of" 6 3 preRest := by
  obtain ⟨f, fd, F, hm⟩ := F
  refine fx_of F hm (F.binds (ps := ["r", "x", "y"]) fun _ _ _ _ _ _ us hl => match us, hl with | [_, _, _], _ => rfl) sc_rest_of rfl (fun cdv A outer s H E args d hr hn hp => ?_)
  obtain ⟨r, x, y, rfl, hR, hx, hy, h0, rfl⟩ := hp
  have hB := BIG_eq
  have fq := quot_fitN hR hx hy h0
  exact bx_one (sx_ret (ex_call (Lo.mono (k := 5) (by decide)) hr (xs_cons (ex_v 0) (xs_cons (ex_v 1) (xs_cons (Ex.pair (ex_call Qu hr (xs_cons (ex_v 0) (xs_cons (ex_v 1) (xs_one (ex_v 2)))) ⟨r, x, y, rfl, hR, hx, hy, h0, rfl⟩)) (xs_one (ex_v 2))))) ⟨r, x, _, y, rfl, hR, fq.mono (by omega), hy.mono (by omega), rfl⟩))
def sqI (n : Int) : Int := (Rg.sqrt n.toNat : Nat)
theorem sqI_is {n : Int} (h : 0 ≤ n) : 0 ≤ sqI n ∧ sqI n * sqI n ≤ n ∧ n < (sqI n + 1) * (sqI n + 1) := by
  obtain ⟨a, b⟩ := Rf.sqrt_is n.toNat
  unfold sqI
  generalize Rg.sqrt n.toNat = s at *
  have a' : ((s * s : Nat) : Int) ≤ ((n.toNat : Nat) : Int) := Int.ofNat_le.mpr a
  have b' : ((n.toNat : Nat) : Int) < (((s + 1) * (s + 1) : Nat) : Int) := Int.ofNat_lt.mpr b
  rw [Int.natCast_mul] at a' b'
  have e : ((n.toNat : Nat) : Int) = n := by omega
  rw [e] at a' b'
  exact ⟨by omega, a', by simpa using b'⟩
theorem sqI_unique {n g : Int} (h : 0 ≤ n) (g0 : 0 ≤ g) (h1 : g * g ≤ n) (h2 : sqI n ≤ g) : g = sqI n := by
  obtain ⟨a, b, c⟩ := sqI_is h
  rcases Int.lt_or_le (sqI n) g with k | k
  · have := Int.mul_le_mul (show sqI n + 1 ≤ g by omega) (show sqI n + 1 ≤ g by omega) (by omega) g0
    omega
  · omega
theorem newton {n g : Int} (h : 0 ≤ n) (hg : 0 < g) : sqI n ≤ (g + n / g) / 2 ∧ (g ≤ (g + n / g) / 2 → g * g ≤ n) := by
  obtain ⟨a, b, c⟩ := sqI_is h
  generalize sqI n = s at *
  have q : (2 * s - g) * g ≤ n := by
    have e : (2 * s - g) * g = s * s - (s - g) * (s - g) := by grind
    have := Rf.sq_nonneg (s - g)
    omega
  have q1 := (Int.le_ediv_iff_mul_le hg).mpr q
  refine ⟨by omega, fun k => ?_⟩
  have q2 : g ≤ n / g := by omega
  exact (Int.le_ediv_iff_mul_le hg).mp q2
def preWRoot : List D → D → Prop := fun as d => ∃ n : Int, as = [.int n] ∧ 0 ≤ n ∧ Fit 200 n ∧ d = .int (sqI n)
theorem sc_whole_root : FnScope ["n", "guess", "better"] ["n"] (defScope s_whole_root) := ⟨rfl, rfl, rfl, by decide +kernel, rfl, by decide +kernel, by decide +kernel⟩
theorem ok_whole_root (F : FunAt K mg "whole_root" s_whole_root) : Fx P w K mg base tb "whole_root" 1 1 preWRoot := by
  obtain ⟨f, fd, F, hm⟩ := F
  refine fx_of F hm (F.binds (ps := ["n"]) fun _ _ _ _ _ _ us hl => match us, hl with | [_], _ => rfl) sc_whole_root rfl (fun cdv A outer s H E args d hr hn hp => ?_)
  obtain ⟨n, rfl, h0, hf, rfl⟩ := hp
  obtain ⟨s0, s1, s2⟩ := sqI_is h0
  refine bx_cons (sx_set 1 (ex_v 0) sc_whole_root.nd) ?_
  refine bx_cons (sx_set 2 (ex_fdiv (ex_add (ex_v 0) ex_int) ex_int (by omega) (by decide)) sc_whole_root.nd) ?_
  refine bx_cons (sx_while (fun m ss ow => ∃ g b : Int, (m = g.toNat ∧ 0 ≤ g ∧ g ≤ n ∧ sqI n ≤ g ∧ sqI n ≤ b ∧ (g ≤ b → g * g ≤ n)) ∧ ss = [some (.int n), some (.int g), some (.int b)] ∧ ow = .no) (fun ss ow => ∃ b : Int, ss = [some (.int n), some (.int (sqI n)), some (.int b)] ∧ ow = .no)
    PassesOwn.never ?_ (m := n.toNat) ⟨n, (n + 1) / 2, ⟨rfl, h0, Int.le_refl _, ?_, ?_, ?_⟩, rfl, rfl⟩ (ss' := [some (.int n), some (.int (sqI n)), none]) (ow' := .no) ?_) (bx_one (sx_ret (ex_v 1)))
  · rintro m ss ow ⟨g, b, ⟨rfl, g0, gn, sg, sb, gb⟩, rfl, rfl⟩
    refine ⟨_, tx_lt (ex_v 2) (ex_v 1), fun h => ?_, fun h => ?_⟩
    · have k : ¬ b < g := of_decide_eq_false h
      have e := sqI_unique h0 g0 (gb (by omega)) sg
      exact ⟨b, by rw [e], rfl⟩
    · have k : b < g := of_decide_eq_true h
      have b0 : 0 < b := by
        rcases Int.lt_or_le 0 b with z | z
        · exact z
        · exfalso
          have e : sqI n = 0 := by omega
          rw [e] at s2
          omega
      obtain ⟨n1, n2⟩ := newton h0 b0
      have fb : Fit 200 b := by
        unfold Fit at *
        omega
      refine ⟨b.toNat, _, .no, by omega, ⟨b, (b + n / b) / 2, ⟨rfl, by omega, by omega, sb, n1, n2⟩, rfl, rfl⟩, ?_⟩
      refine bx_cons (sx_set 1 (ex_v 2) sc_whole_root.nd) ?_
      exact bx_one (sx_set 2 (ex_fdiv (ex_add (ex_v 1) (ex_fdiv (ex_v 0) (ex_v 1) b0 (Fit.log fb (by omega) b0))) ex_int (by omega) (by decide)) sc_whole_root.nd)
  · rcases Int.lt_or_le n (sqI n) with z | z
    · have := Int.mul_le_mul (show (1 : Int) ≤ sqI n by omega) (Int.le_refl (sqI n)) s0 s0
      omega
    · exact z
  · rcases Int.lt_or_le 0 n with z | z
    · have := (newton h0 z).1
      rwa [Int.ediv_self (by omega)] at this
    · have e : n = 0 := by omega
      subst e
      decide
  · intro k
    rcases Int.lt_or_le 0 n with z | z
    · exact (newton h0 z).2 (by rw [Int.ediv_self (by omega)]; exact k)
    · have e : n = 0 := by omega
      subst e
      decide
  · rintro ss ow ⟨b, rfl, rfl⟩
    exact ⟨⟨rfl, rfl, trivial⟩, rfl⟩
theorem sqI_sq (u : Int) : sqI (u * u) = u.natAbs := by
  unfold sqI
  have := Rf.sq_nonneg u
  rw [Rf.sqrt_natAbs (v := u) (by omega)]
theorem eOf_is {r : Int} (hR : IsR r) : eOf r = 4 * (RR r).c - (RR r).t * (RR r).t := by
  rcases isR_cases hR with rfl | rfl | rfl | rfl | rfl <;> decide
theorem eOf_pos {r : Int} (hR : IsR r) : 3 ≤ eOf r ∧ eOf r ≤ 11 := by
  rcases isR_cases hR with rfl | rfl | rfl | rfl | rfl <;> decide
theorem sq_lt {p q : Int} (p0 : 0 ≤ p) (h : p < q) : p * p < q * q := by
  have := Int.mul_le_mul (show p + 1 ≤ q by omega) (show p + 1 ≤ q by omega) (by omega) (by omega)
  have e : (p + 1) * (p + 1) = p * p + 2 * p + 1 := by grind
  omega
theorem sqI_le {n : Int} (h : 0 ≤ n) : sqI n ≤ n := by
  obtain ⟨s0, s1, s2⟩ := sqI_is h
  rcases Int.lt_or_le n (sqI n) with z | z
  · have := Int.mul_le_mul (show (1 : Int) ≤ sqI n by omega) (Int.le_refl (sqI n)) s0 s0
    omega
  · exact z
theorem sqI_fit {m : Nat} {n : Int} (h : 0 ≤ n) (f : Fit m n) : Fit m (sqI n) := by
  have := sqI_le h
  have := (sqI_is h).1
  unfold Fit at *
  omega
theorem four_n {r : Int} (hR : IsR r) (y : Zw) : 4 * Rg.norm (RR r) y = (2 * y.a + tOf r * y.b) * (2 * y.a + tOf r * y.b) + eOf r * y.b * y.b := by
  have f := Rf.four_norm (RR r) y
  rw [← eOf_is hR, ← Int.mul_assoc] at f
  exact f
theorem s_maxes {r : Int} {n : Nat} {e s : Int} {y : Zw} (hR : IsR r) (hn : Rg.norm (RR r) y = n) (he : e = eOf r) {b : Int} (hb : y.b = b ∨ y.b = -b) (s0 : 0 ≤ s) (h1 : s * s + e * b * b ≤ 4 * n) (top : ∀ v : Int, 0 ≤ v → v * v + e * b * b ≤ 4 * n → v ≤ s) : 2 * y.a + tOf r * y.b = s ∨ 2 * y.a + tOf r * y.b = -s := by
  have f := four_n hR y
  rw [hn, ← he] at f
  have eb : e * y.b * y.b = e * b * b := by
    rcases hb with h | h <;> rw [h]
    grind
  rw [eb] at f
  generalize 2 * y.a + tOf r * y.b = u at *
  have t1 := top u.natAbs (by omega) (by
    have : (u.natAbs : Int) * u.natAbs = u * u := Int.natAbs_mul_self' u
    omega)
  rcases Int.lt_or_le (u.natAbs : Int) s with k | k
  · have := sq_lt (show (0 : Int) ≤ u.natAbs by omega) k
    have e2 : (u.natAbs : Int) * u.natAbs = u * u := Int.natAbs_mul_self' u
    omega
  · omega
structure FnW (r : Int) (n b : Nat) (s : Int) (ks : List (Int × Int)) : Prop where
  s0 : 0 ≤ s
  sl : s ≤ sqI (4 * n)
  top : ∀ v : Int, 0 ≤ v → v * v + eOf r * b * b ≤ 4 * n → v ≤ s
  nd : ks.Nodup
  len : ks.length ≤ 2 * b
  src : ∀ k ∈ ks, ∃ z, k = pz z ∧ Rg.norm (RR r) z = n ∧ Rg.form (RR r) z = z
  all : ∀ y, Rg.norm (RR r) y = n → y.b.natAbs < b → pz (Rg.form (RR r) y) ∈ ks
def cd1 (r : Int) (s : Int) (b : Nat) : Zw := ⟨(s - tOf r * b) / 2, b⟩
def cd2 (r : Int) (s : Int) (b : Nat) : Zw := ⟨(s + tOf r * b) / 2, -b⟩
theorem t01 {r : Int} (hR : IsR r) : tOf r = 0 ∨ tOf r = 1 := by
  rcases isR_cases hR with rfl | rfl | rfl | rfl | rfl <;> decide
theorem par {r : Int} (hR : IsR r) {n b : Nat} {s : Int} (h : s * s + eOf r * b * b = 4 * n) : (s - tOf r * b) % 2 = 0 := by
  have hp : ∀ v : Int, v % 2 = 0 → (v * v) % 4 = 0 := fun v hv => by
    obtain ⟨k, rfl⟩ : ∃ k, v = 2 * k := ⟨v / 2, by omega⟩
    have : (2 * k) * (2 * k) = 4 * (k * k) := by grind
    omega
  have hq : ∀ v : Int, v % 2 = 1 → (v * v) % 4 = 1 := fun v hv => by
    obtain ⟨k, rfl⟩ : ∃ k, v = 2 * k + 1 := ⟨v / 2, by omega⟩
    have : (2 * k + 1) * (2 * k + 1) = 4 * (k * k + k) + 1 := by grind
    omega
  have hs : s % 2 = 0 ∨ s % 2 = 1 := by omega
  have hb : (b : Int) % 2 = 0 ∨ (b : Int) % 2 = 1 := by omega
  have a0 := hp s
  have a1 := hq s
  have b0 := hp b
  have b1 := hq b
  have eb : eOf r * b * b = eOf r * ((b : Int) * b) := by rw [Int.mul_assoc]
  rw [eb] at h
  generalize (b : Int) * b = B at *
  generalize s * s = S at *
  rcases isR_cases hR with rfl | rfl | rfl | rfl | rfl <;> simp only [eOf, tOf] at * <;> simp at * <;> omega
theorem norm_cd {r : Int} (hR : IsR r) {n b : Nat} {s : Int} (h : s * s + eOf r * b * b = 4 * n) : Rg.norm (RR r) (cd1 r s b) = n ∧ Rg.norm (RR r) (cd2 r s b) = n := by
  have p := par hR h
  have f1 := four_n hR (cd1 r s b)
  have f2 := four_n hR (cd2 r s b)
  have e1 : 2 * (cd1 r s b).a + tOf r * (cd1 r s b).b = s := by
    show 2 * ((s - tOf r * b) / 2) + tOf r * b = s
    generalize tOf r * (b : Int) = q at *
    omega
  have e2 : 2 * (cd2 r s b).a + tOf r * (cd2 r s b).b = s := by
    show 2 * ((s + tOf r * b) / 2) + tOf r * (-b) = s
    rw [Int.mul_neg]
    generalize tOf r * (b : Int) = q at *
    omega
  have e3 : eOf r * (cd2 r s b).b * (cd2 r s b).b = eOf r * b * b := by
    show eOf r * (-b) * (-b) = _
    grind
  have e4 : eOf r * (cd1 r s b).b * (cd1 r s b).b = eOf r * b * b := rfl
  rw [e1, e4] at f1
  rw [e2, e3] at f2
  omega
theorem putP_mem {ks : List (Int × Int)} {k x : Int × Int} : x ∈ putP ks k ↔ x ∈ ks ∨ x = k := by
  unfold putP
  split
  · rename_i h
    exact ⟨.inl, fun z => z.elim id fun e => e ▸ h⟩
  · simp
theorem putP_nd {ks : List (Int × Int)} {k : Int × Int} (h : ks.Nodup) : (putP ks k).Nodup := by
  unfold putP
  split
  · exact h
  · rename_i hn
    rw [List.nodup_append]
    refine ⟨h, by simp, fun a ha b hb => ?_⟩
    rw [List.mem_singleton.mp hb]
    rintro rfl
    exact hn ha
theorem putP_len (ks : List (Int × Int)) (k : Int × Int) : (putP ks k).length ≤ ks.length + 1 := by
  unfold putP
  split
  · omega
  · simp
theorem form_neg {r : Int} (hR : IsR r) (x : Zw) : Rg.form (RR r) ⟨-x.a, -x.b⟩ = Rg.form (RR r) x := by
  have hu : Rg.norm (RR r) ⟨-1, 0⟩ = 1 := by simp [Rg.norm]
  have e := Rf.form_times (RR_ok hR) x hu
  have e2 : Rg.mul (RR r) x ⟨-1, 0⟩ = ⟨-x.a, -x.b⟩ := by simp [Rg.mul]
  rwa [e2] at e
theorem FnW.next {r : Int} (hR : IsR r) {n b : Nat} {s : Int} {ks : List (Int × Int)} (h : FnW r n b s ks) : ∀ v : Int, 0 ≤ v → v * v + eOf r * (b + 1 : Nat) * (b + 1 : Nat) ≤ 4 * n → v ≤ s := fun v v0 hv => by
  refine h.top v v0 ?_
  have e := eOf_pos hR
  have : eOf r * (b + 1 : Nat) * (b + 1 : Nat) = eOf r * b * b + eOf r * (2 * b + 1) := by
    rw [Int.natCast_add]
    grind
  have := Int.mul_nonneg (show 0 ≤ eOf r by omega) (show (0 : Int) ≤ 2 * b + 1 by omega)
  omega
theorem FnW.skip {r : Int} (hR : IsR r) {n b : Nat} {s : Int} {ks : List (Int × Int)} (h : FnW r n b s ks) (h1 : s * s + eOf r * b * b ≤ 4 * n) (h2 : s * s + eOf r * b * b ≠ 4 * n) : FnW r n (b + 1) s ks := by
  refine ⟨h.s0, h.sl, h.next hR, h.nd, by have := h.len; omega, h.src, fun y hy hb => ?_⟩
  by_cases k : y.b.natAbs < b
  · exact h.all y hy k
  · exfalso
    have hb' : y.b = b ∨ y.b = -(b : Int) := by omega
    have q := s_maxes hR hy rfl hb' h.s0 h1 h.top
    have f := four_n hR y
    rw [hy] at f
    have e1 : (2 * y.a + tOf r * y.b) * (2 * y.a + tOf r * y.b) = s * s := by rcases q with q | q <;> rw [q]; grind
    have e2 : eOf r * y.b * y.b = eOf r * b * b := by rcases hb' with q | q <;> rw [q]; grind
    omega
theorem FnW.put {r : Int} (hR : IsR r) {n b : Nat} {s : Int} {ks : List (Int × Int)} (h : FnW r n b s ks) (h1 : s * s + eOf r * b * b = 4 * n) : FnW r n (b + 1) s (putP (putP ks (pz (Rg.form (RR r) (cd1 r s b)))) (pz (Rg.form (RR r) (cd2 r s b)))) := by
  obtain ⟨n1, n2⟩ := norm_cd hR h1
  refine ⟨h.s0, h.sl, h.next hR, putP_nd (putP_nd h.nd), ?_, fun k hk => ?_, fun y hy hb => ?_⟩
  · have := putP_len (putP ks (pz (Rg.form (RR r) (cd1 r s b)))) (pz (Rg.form (RR r) (cd2 r s b)))
    have := putP_len ks (pz (Rg.form (RR r) (cd1 r s b)))
    have := h.len
    omega
  · rcases putP_mem.mp hk with hk | rfl
    · rcases putP_mem.mp hk with hk | rfl
      · exact h.src k hk
      · exact ⟨_, rfl, by rw [Rf.norm_form (RR_ok hR), n1], Rf.form_form (RR_ok hR) _⟩
    · exact ⟨_, rfl, by rw [Rf.norm_form (RR_ok hR), n2], Rf.form_form (RR_ok hR) _⟩
  · by_cases k : y.b.natAbs < b
    · exact putP_mem.mpr (.inl (putP_mem.mpr (.inl (h.all y hy k))))
    · have hb' : y.b = b ∨ y.b = -(b : Int) := by omega
      have q := s_maxes hR hy rfl hb' h.s0 (by omega) h.top
      have main : Rg.form (RR r) y = Rg.form (RR r) (cd1 r s b) ∨ Rg.form (RR r) y = Rg.form (RR r) (cd2 r s b) := by
        cases y with
        | mk a c =>
          simp only at hb' q
          rcases hb' with rfl | rfl <;> rcases q with q | q
          · left
            have : (⟨a, (b : Int)⟩ : Zw) = cd1 r s b := by
              unfold cd1
              simp only [Rg.Zw.mk.injEq, and_true]
              generalize tOf r * (b : Int) = w at *
              omega
            rw [this]
          · right
            rw [← form_neg hR ⟨a, (b : Int)⟩]
            have : (⟨-a, -(b : Int)⟩ : Zw) = cd2 r s b := by
              unfold cd2
              simp only [Rg.Zw.mk.injEq, and_true]
              generalize tOf r * (b : Int) = w at *
              omega
            rw [this]
          · right
            have : (⟨a, -(b : Int)⟩ : Zw) = cd2 r s b := by
              unfold cd2
              simp only [Rg.Zw.mk.injEq, and_true]
              rw [Int.mul_neg] at q
              generalize tOf r * (b : Int) = w at *
              omega
            rw [this]
          · left
            rw [← form_neg hR ⟨a, -(b : Int)⟩]
            have : (⟨-a, - -(b : Int)⟩ : Zw) = cd1 r s b := by
              unfold cd1
              simp only [Rg.Zw.mk.injEq, Int.neg_neg, and_true]
              rw [Int.mul_neg] at q
              generalize tOf r * (b : Int) = w at *
              omega
            rw [this]
      rcases main with e | e <;> rw [e]
      · exact putP_mem.mpr (.inl (putP_mem.mpr (.inr rfl)))
      · exact putP_mem.mpr (.inr rfl)
theorem FnW.done {r : Int} (hR : IsR r) {n b : Nat} {s : Int} {ks : List (Int × Int)} (h : FnW r n b s ks) (hb : (4 * n : Int) < eOf r * b * b) : ((Rg.norms (RR r) n).map pz).Perm ks ∧ ((Rg.norms (RR r) n).map pz).Pairwise leP := by
  obtain ⟨n1, n2⟩ := Rf.norms_is (RR_ok hR) n
  have inj : ∀ {x y : Zw}, pz x = pz y → x = y := fun {x y} e => by
    cases x
    cases y
    simp only [pz, Prod.mk.injEq] at e
    rw [e.1, e.2]
  have nd1 : ((Rg.norms (RR r) n).map pz).Nodup := by
    rw [List.nodup_iff_pairwise_ne, List.pairwise_map]
    refine n1.imp fun {x y} k z => ?_
    have := inj z
    subst this
    rw [Rf.before_iff] at k
    omega
  refine ⟨(List.perm_ext_iff_of_nodup nd1 h.nd).mpr fun k => ⟨fun hk => ?_, fun hk => ?_⟩, ?_⟩
  · obtain ⟨z, hz, rfl⟩ := List.mem_map.mp hk
    obtain ⟨z1, z2⟩ := (n2 z).mp hz
    rw [← z2]
    refine h.all z z1 ?_
    have f := four_n hR z
    rw [z1] at f
    have e := eOf_pos hR
    rcases Nat.lt_or_ge z.b.natAbs b with k | k
    · exact k
    · exfalso
      have q1 : ((b * b : Nat) : Int) ≤ ((z.b.natAbs * z.b.natAbs : Nat) : Int) := Int.ofNat_le.mpr (Nat.mul_le_mul k k)
      rw [Int.natAbs_mul_self, Int.natCast_mul] at q1
      have q2 := Int.mul_le_mul_of_nonneg_left q1 (show 0 ≤ eOf r by omega)
      rw [← Int.mul_assoc, ← Int.mul_assoc] at q2
      have := Rf.sq_nonneg (2 * z.a + tOf r * z.b)
      omega
  · obtain ⟨z, rfl, z1, z2⟩ := h.src k hk
    exact List.mem_map.mpr ⟨z, (n2 z).mpr ⟨z1, z2⟩, rfl⟩
  · rw [List.pairwise_map]
    refine n1.imp fun {x y} k => ?_
    rw [Rf.before_iff] at k
    show ¬ (y.a < x.a ∨ (y.a = x.a ∧ y.b < x.b))
    omega
theorem fn_start (r : Int) (n : Nat) : FnW r n 0 (sqI (4 * n)) [] := by
  obtain ⟨z0, z1, z2⟩ := sqI_is (n := 4 * (n : Int)) (by omega)
  refine ⟨z0, Int.le_refl _, fun v v0 hv => ?_, List.nodup_nil, by simp, (fun _ h => nomatch h), (fun _ _ h => by omega)⟩
  rcases Int.lt_or_le (sqI (4 * (n : Int))) v with q | q
  · have := Int.mul_le_mul (show sqI (4 * (n : Int)) + 1 ≤ v by omega) (show sqI (4 * (n : Int)) + 1 ≤ v by omega) (by omega) v0
    have e : eOf r * ((0 : Nat) : Int) * ((0 : Nat) : Int) = 0 := by simp
    omega
  · exact q
theorem fn_step {r : Int} (hR : IsR r) {n b : Nat} {s : Int} {ks : List (Int × Int)} (hW : FnW r n b s ks) (k : eOf r * b * b ≤ 4 * (n : Int)) : ∃ s' ks', FnW r n (b + 1) s' ks' := by
  obtain ⟨s', es⟩ : ∃ s', s' = sqI (4 * n - eOf r * b * b) := ⟨_, rfl⟩
  obtain ⟨z0, z1, z2⟩ := sqI_is (n := 4 * n - eOf r * b * b) (by omega)
  rw [← es] at z0 z1 z2
  have top' : ∀ v : Int, 0 ≤ v → v * v + eOf r * b * b ≤ 4 * n → v ≤ s' := fun v v0 hv => by
    rcases Int.lt_or_le s' v with q | q
    · have := Int.mul_le_mul (show s' + 1 ≤ v by omega) (show s' + 1 ≤ v by omega) (by omega) v0
      omega
    · exact q
  have ss' : s' ≤ s := hW.top s' z0 (by omega)
  have hW' : FnW r n b s' ks := ⟨z0, Int.le_trans ss' hW.sl, top', hW.nd, hW.len, hW.src, hW.all⟩
  by_cases q : s' * s' + eOf r * b * b = 4 * n
  · exact ⟨_, _, hW'.put hR q⟩
  · exact ⟨_, _, hW'.skip hR (by omega) q⟩
theorem fn_reach {r : Int} (hR : IsR r) (n : Nat) : ∀ k : Nat, (∃ b s ks, b ≤ k ∧ FnW r n b s ks ∧ (4 * n : Int) < eOf r * b * b) ∨ ∃ s ks, FnW r n k s ks
  | 0 => .inr ⟨_, _, fn_start r n⟩
  | k + 1 => by
    rcases fn_reach hR n k with ⟨b, s, ks, hb, h⟩ | ⟨s, ks, h⟩
    · exact .inl ⟨b, s, ks, by omega, h⟩
    · by_cases q : eOf r * k * k ≤ 4 * (n : Int)
      · exact .inr (fn_step hR h q)
      · exact .inl ⟨k, s, ks, by omega, h, by omega⟩
theorem norms_small {r : Int} (hR : IsR r) {n : Nat} (hn : n ≤ 10000000000) : (Rg.norms (RR r) n).length ≤ 400002 := by
  have e3 := eOf_pos hR
  have fin : ∀ b s ks, b ≤ 200001 → FnW r n b s ks → (4 * n : Int) < eOf r * b * b → (Rg.norms (RR r) n).length ≤ 400002 := fun b s ks hb h q => by
    have p := (h.done hR q).1.length_eq
    rw [List.length_map] at p
    have := h.len
    omega
  rcases fn_reach hR n 200001 with ⟨b, s, ks, hb, h, q⟩ | ⟨s, ks, h⟩
  · exact fin b s ks hb h q
  · refine fin _ s ks (Nat.le_refl _) h ?_
    have q2 := Int.mul_le_mul_of_nonneg_right e3.1 (show (0 : Int) ≤ ((200001 : Nat) : Int) * ((200001 : Nat) : Int) by decide)
    rw [← Int.mul_assoc (eOf r)] at q2
    omega
def preForms : List D → D → Prop := fun as d => ∃ (r : Int) (n : Nat), as = [.int r, .int n] ∧ IsR r ∧ 1 ≤ n ∧ n ≤ 10000000000 ∧ d = .lst ((Rg.norms (RR r) n).map kz)
theorem sc_forms_of_norm : FnScope ["r", "n", "t", "d", "found", "s", "b"] ["r", "n"] (defScope s_forms_of_norm) := ⟨rfl, rfl, rfl, by decide +kernel, rfl, by decide +kernel, by decide +kernel⟩
theorem ok_forms_of_norm (F : FunAt K mg "forms_of_norm" s_forms_of_norm) (T : CT K mg "T_OF_RING" (tabD [0, 0, 1, 1, 1])) (Dc : CT K mg "D_OF_RING" (tabD [4, 8, 3, 7, 11])) (hsort : mg "sorted" = none) (Wr : Fx P w K mg base tb "whole_root" 1 1 preWRoot) (Fo : Fx P w K mg base tb "form_of" 3 2 preForm) :
    Fx P w K mg base tb "forms_of_norm" 4 2 preForms := by
  obtain ⟨f, fd, F, hm⟩ := F
  refine fx_of F hm (F.binds (ps := ["r", "n"]) fun _ _ _ _ _ _ us hl => match us, hl with | [_, _], _ => rfl) sc_forms_of_norm rfl (fun cdv A outer s H E args d hr hn hp => ?_)
  obtain ⟨r, n, rfl, hR, n1, n10, rfl⟩ := hp
  have e3 := eOf_pos hR
  have ht := t01 hR
  have f4n : Fit 40 (4 * (n : Int)) := by
    unfold Fit
    have : (2 : Nat) ^ 40 = 1099511627776 := by decide
    omega
  have fn : Fit 38 (n : Int) := by
    unfold Fit
    have : (2 : Nat) ^ 38 = 274877906944 := by decide
    omega
  have f4 : Fit 3 4 := by decide
  have fS : Fit 40 (sqI (4 * (n : Int))) := sqI_fit (by omega) f4n
  have fT : Fit 1 (tOf r) := fit_t hR
  have fE : Fit 4 (eOf r) := by unfold Fit; omega
  have sfit : ∀ s : Int, 0 ≤ s → s ≤ sqI (4 * (n : Int)) → Fit 40 s := fun s a b => by
    unfold Fit at *
    omega
  have bfit : ∀ b : Nat, b ≤ 200001 → Fit 18 (b : Int) := fun b h => by
    unfold Fit
    have : (2 : Nat) ^ 18 = 262144 := by decide
    omega
  have bsmall : ∀ b : Nat, eOf r * b * b ≤ 4 * (n : Int) → b ≤ 200000 := fun b h => by
    rcases Nat.lt_or_ge 200000 b with k | k
    · exfalso
      have q1 : ((200000 * 200000 : Nat) : Int) ≤ ((b * b : Nat) : Int) := Int.ofNat_le.mpr (Nat.mul_le_mul (by omega) (by omega))
      rw [Int.natCast_mul b] at q1
      have q2 := Int.mul_le_mul_of_nonneg_left q1 (show 0 ≤ eOf r by omega)
      rw [← Int.mul_assoc (eOf r)] at q2
      omega
    · exact k
  have hw := BIG_eq
  refine bx_cons (sx_set 2 (d := .int (tOf r)) (ex_ixT (ex_ct T) (ex_v 0) (atI_tab D.int hR)) sc_forms_of_norm.nd) ?_
  refine bx_cons (sx_set 3 (d := .int (eOf r)) (ex_ixT (ex_ct Dc) (ex_v 0) (atI_tab D.int hR)) sc_forms_of_norm.nd) ?_
  refine bx_cons (sx_ownDic 4 sc_forms_of_norm.nd) ?_
  refine bx_cons (sx_set 5 (ex_call (Wr.mono (k := 3) (by decide)) hr (xs_one (ex_mul ex_int (ex_v 1) (f4.mulOk fn (by omega)))) ⟨_, rfl, by omega, f4n.mono (by omega), rfl⟩) sc_forms_of_norm.nd) ?_
  refine bx_cons (sx_set 6 ex_int sc_forms_of_norm.nd) ?_
  refine bx_while (fun m ss ow => ∃ (b : Nat) (s : Int) (ks : List (Int × Int)), (m = 200002 - b ∧ b ≤ 200001 ∧ FnW r n b s ks) ∧ ss = [some (.int r), some (.int n), some (.int (tOf r)), some (.int (eOf r)), none, some (.int s), some (.int b)] ∧ ow = .dic 4 ks)
    (fun ss ow => ∃ (b : Nat) (s : Int) (ks : List (Int × Int)), (ks.length ≤ 400002 ∧ ((Rg.norms (RR r) n).map pz).Perm ks ∧ ((Rg.norms (RR r) n).map pz).Pairwise leP) ∧ ss = [some (.int r), some (.int n), some (.int (tOf r)), some (.int (eOf r)), none, some (.int s), some (.int b)] ∧ ow = .dic 4 ks)
    PassesOwn.never ?_ (m := 200002) ⟨0, sqI (4 * n), [], ⟨rfl, by omega, ⟨(sqI_is (by omega)).1, Int.le_refl _, ?_, List.nodup_nil, by simp, (fun _ h => nomatch h), (fun _ _ h => by omega)⟩⟩, rfl, rfl⟩ ?_
  · rintro m ss ow ⟨b, s, ks, ⟨rfl, hb, hW⟩, rfl, rfl⟩
    have fb := bfit b hb
    have feb := fE.mul fb
    refine ⟨_, tx_le (ex_mul (ex_mul (ex_v 3) (ex_v 6) (fE.mulOk fb (by omega))) (ex_v 6) (feb.mulOk fb (by omega))) (ex_mul ex_int (ex_v 1) (f4.mulOk fn (by omega))), fun h => ?_, fun h => ?_⟩
    · have k : ¬ eOf r * b * b ≤ 4 * (n : Int) := of_decide_eq_false h
      obtain ⟨d1, d2⟩ := hW.done hR (by omega)
      exact ⟨b, s, ks, ⟨by have := hW.len; omega, d1, d2⟩, rfl, rfl⟩
    · have k : eOf r * b * b ≤ 4 * (n : Int) := of_decide_eq_true h
      have hb2 := bsmall b k
      obtain ⟨s', es⟩ : ∃ s', s' = sqI (4 * n - eOf r * b * b) := ⟨_, rfl⟩
      obtain ⟨z0, z1, z2⟩ := sqI_is (n := 4 * n - eOf r * b * b) (by omega)
      rw [← es] at z0 z1 z2
      have top' : ∀ v : Int, 0 ≤ v → v * v + eOf r * b * b ≤ 4 * n → v ≤ s' := fun v v0 hv => by
        rcases Int.lt_or_le s' v with q | q
        · have := Int.mul_le_mul (show s' + 1 ≤ v by omega) (show s' + 1 ≤ v by omega) (by omega) v0
          omega
        · exact q
      have ss' : s' ≤ s := hW.top s' z0 (by omega)
      have hW' : FnW r n b s' ks := ⟨z0, Int.le_trans ss' hW.sl, top', hW.nd, hW.len, hW.src, hW.all⟩
      have fs' := sfit s' z0 hW'.sl
      have ftb := fT.mul fb
      obtain ⟨ks', hk'⟩ : ∃ ks', ks' = if s' * s' + eOf r * b * b = 4 * n then putP (putP ks (pz (Rg.form (RR r) (cd1 r s' b)))) (pz (Rg.form (RR r) (cd2 r s' b))) else ks := ⟨_, rfl⟩
      have hN : FnW r n (b + 1) s' ks' := by
        rw [hk']
        split
        · rename_i q
          exact hW'.put hR q
        · rename_i q
          exact hW'.skip hR (by omega) q
      refine ⟨200002 - (b + 1), [some (.int r), some (.int n), some (.int (tOf r)), some (.int (eOf r)), none, some (.int s'), some (.int (b + 1 : Nat))], .dic 4 ks', by omega, ⟨b + 1, s', ks', ⟨rfl, by omega, hN⟩, rfl, rfl⟩, ?_⟩
      refine bx_cons (sx_while (fun m ss ow => ∃ u : Int, (m = u.toNat ∧ s' ≤ u ∧ u ≤ s) ∧ ss = [some (.int r), some (.int n), some (.int (tOf r)), some (.int (eOf r)), none, some (.int u), some (.int b)] ∧ ow = .dic 4 ks) (fun ss ow => ss = [some (.int r), some (.int n), some (.int (tOf r)), some (.int (eOf r)), none, some (.int s'), some (.int b)] ∧ ow = .dic 4 ks)
        PassesOwn.never ?_ (m := s.toNat) ⟨s, ⟨rfl, ss', Int.le_refl _⟩, rfl, rfl⟩ (ss' := [some (.int r), some (.int n), some (.int (tOf r)), some (.int (eOf r)), none, some (.int s'), some (.int b)]) (ow' := .dic 4 ks) ?_) ?_
      · rintro m ss ow ⟨u, ⟨rfl, u1, u2⟩, rfl, rfl⟩
        have fu := sfit u (by omega) (Int.le_trans u2 hW.sl)
        refine ⟨_, tx_gt (ex_add (ex_mul (ex_v 5) (ex_v 5) (fu.mulOk fu (by omega))) (ex_mul (ex_mul (ex_v 3) (ex_v 6) (fE.mulOk fb (by omega))) (ex_v 6) (feb.mulOk fb (by omega)))) (ex_mul ex_int (ex_v 1) (f4.mulOk fn (by omega))), fun h => ?_, fun h => ?_⟩
        · have q : ¬ 4 * (n : Int) < u * u + eOf r * b * b := of_decide_eq_false h
          have e : u = s' := by
            have := top' u (by omega) (by omega)
            omega
          rw [e]
          exact ⟨rfl, rfl⟩
        · have q : 4 * (n : Int) < u * u + eOf r * b * b := of_decide_eq_true h
          have ne : u ≠ s' := fun e => by
            rw [e] at q
            omega
          exact ⟨(u - 1).toNat, _, .dic 4 ks, by omega, ⟨u - 1, ⟨rfl, by omega, by omega⟩, rfl, rfl⟩, bx_one (sx_set 5 (ex_sub (ex_v 5) ex_int) sc_forms_of_norm.nd)⟩
      · rintro ss ow ⟨rfl, rfl⟩
        exact ⟨SubS.refl _, rfl⟩
      · have fc1 : FZ 900000 (cd1 r s' b) := ⟨(Fit.ediv ((fs'.mono (show 40 ≤ 60 by omega)).sub (ftb.mono (show _ ≤ 60 by omega))) (by omega)).mono (by omega), fb.mono (by omega)⟩
        have fc2 : FZ 900000 (cd2 r s' b) := ⟨(Fit.ediv ((fs'.mono (show 40 ≤ 60 by omega)).add (ftb.mono (show _ ≤ 60 by omega))) (by omega)).mono (by omega), fb.neg.mono (by omega)⟩
        have hl := hW.len
        have hl2 := putP_len ks (pz (Rg.form (RR r) (cd1 r s' b)))
        refine bx_cons (ss' := [some (.int r), some (.int n), some (.int (tOf r)), some (.int (eOf r)), none, some (.int s'), some (.int b)]) (ow' := .dic 4 ks') (sx_if (tx_eq (ex_add (ex_mul (ex_v 5) (ex_v 5) (fs'.mulOk fs' (by omega))) (ex_mul (ex_mul (ex_v 3) (ex_v 6) (fE.mulOk fb (by omega))) (ex_v 6) (feb.mulOk fb (by omega)))) (ex_mul ex_int (ex_v 1) (f4.mulOk fn (by omega)))) (fun h => ?_) (fun h => ?_)) ?_
        · have q : s' * s' + eOf r * b * b = 4 * (n : Int) := of_decide_eq_true h
          rw [hk', if_pos q]
          refine bx_cons (sx_putDic 4 hr (ex_call (Fo.mono (k := 3) (by decide)) hr (xs_cons (ex_v 0) (xs_one (ex_key (xs_cons (ex_fdiv (ex_sub (ex_v 5) (ex_mul (ex_v 2) (ex_v 6) (fT.mulOk fb (by omega)))) ex_int (by omega) (by decide)) (xs_one (ex_v 6)))))) ⟨r, true, cd1 r s' b, rfl, hR, fc1, rfl⟩) (by omega) (hval := ex_bl)) ?_
          exact bx_one (sx_putDic 4 hr (ex_call (Fo.mono (k := 3) (by decide)) hr (xs_cons (ex_v 0) (xs_one (ex_key (xs_cons (ex_fdiv (ex_add (ex_v 5) (ex_mul (ex_v 2) (ex_v 6) (fT.mulOk fb (by omega)))) ex_int (by omega) (by decide)) (xs_one (ex_neg (ex_v 6))))))) ⟨r, true, cd2 r s' b, rfl, hR, fc2, rfl⟩) (Nat.lt_of_le_of_lt hl2 (by omega)) (hval := ex_bl))
        · have q : ¬ s' * s' + eOf r * b * b = 4 * (n : Int) := of_decide_eq_false h
          rw [hk', if_neg q]
          exact bx_nil
        · exact bx_one (sx_set 6 (d := .int (b + 1 : Nat)) (Ex.cast (ex_add (ex_v 6) ex_int) (by rw [Int.natCast_add]; rfl)) sc_forms_of_norm.nd)
  · intro v v0 hv
    obtain ⟨z0, z1, z2⟩ := sqI_is (n := 4 * (n : Int)) (by omega)
    rcases Int.lt_or_le (sqI (4 * (n : Int))) v with q | q
    · have := Int.mul_le_mul (show sqI (4 * (n : Int)) + 1 ≤ v by omega) (show sqI (4 * (n : Int)) + 1 ≤ v by omega) (by omega) v0
      have e : eOf r * ((0 : Nat) : Int) * ((0 : Nat) : Int) = 0 := by simp
      omega
    · exact q
  · rintro ss ow ⟨b, s, ks, ⟨hl, d1, d2⟩, rfl, rfl⟩
    refine bx_one (sx_ret (Ex.cast (ex_sortedOwn hr hsort (by omega) d1 d2) ?_))
    rw [List.map_map]
    rfl
open Rf (WP NoBelow) in
structure WpW (n left p : Nat) (fd : List Nat) : Prop where
  n0 : n ≠ 0
  l0 : left ≠ 0
  p2 : 2 ≤ p
  podd : p = 2 ∨ p % 2 = 1
  nb : NoBelow left p
  srt : fd.Pairwise (· < ·)
  lt : ∀ q ∈ fd, q < p
  mem : ∀ q, q ∈ fd ↔ WP q ∧ q ∣ n ∧ ¬ q ∣ left
  dv : left ∣ n
  len : fd.length < p
def nextP (p : Nat) : Nat := if p = 2 then 3 else p + 2
theorem strip_ex {p : Nat} (hp : 2 ≤ p) : ∀ left : Nat, left ≠ 0 → ∃ l k : Nat, left = p ^ k * l ∧ ¬ p ∣ l := by
  intro left
  induction left using Nat.strongRecOn with
  | ind left ih =>
    intro h0
    by_cases h : p ∣ left
    · obtain ⟨m, rfl⟩ := h
      have m0 : m ≠ 0 := fun z => h0 (by rw [z, Nat.mul_zero])
      have lt : m < p * m := by
        have := Nat.mul_le_mul_right m hp
        omega
      obtain ⟨l, k, e, n⟩ := ih m lt m0
      exact ⟨l, k + 1, by rw [e, Nat.pow_succ, Nat.mul_comm (p ^ k) p, Nat.mul_assoc], n⟩
    · exact ⟨left, 0, by simp, h⟩
theorem wp_pow {q p : Nat} (hq : Rf.WP q) (hp : Rf.WP p) : ∀ k : Nat, q ∣ p ^ k → q = p
  | 0, h => by
    have : q = 1 := Nat.dvd_one.mp (by simpa using h)
    have := hq.1
    omega
  | k + 1, h => by
    rw [Nat.pow_succ] at h
    rcases hq.dvd_mul h with z | z
    · exact wp_pow hq hp k z
    · rcases hp.2 q z with e | e
      · have := hq.1
        omega
      · exact e
theorem WpW.step {n left p : Nat} {fd : List Nat} (h : WpW n left p fd) {l k : Nat} (e : left = p ^ k * l) (hn : ¬ p ∣ l) : WpW n l (nextP p) (if p ∣ left then fd ++ [p] else fd) := by
  obtain ⟨n0, l0, p2, podd, nb, srt, lt, mem, dv, len⟩ := h
  have ll : l ∣ left := ⟨p ^ k, by rw [e, Nat.mul_comm]⟩
  have l0' : l ≠ 0 := fun z => hn (by rw [z]; exact Nat.dvd_zero _)
  have np : p < nextP p := by unfold nextP; split <;> omega
  have wp : p ∣ left → Rf.WP p := fun z => Rf.wp_of_least z p2 nb
  refine ⟨n0, l0', by omega, ?_, fun j j2 jp jl => ?_, ?_, ?_, fun q => ?_, Nat.dvd_trans ll dv, ?_⟩
  · unfold nextP
    split <;> omega
  · by_cases q : j < p
    · exact nb j j2 q (Nat.dvd_trans jl ll)
    · by_cases q2 : j = p
      · subst q2
        exact hn jl
      · unfold nextP at jp
        split at jp
        · omega
        · have ej : j = p + 1 := by omega
          have : 2 ∣ j := by omega
          exact nb 2 (Nat.le_refl _) (by omega) (Nat.dvd_trans (Nat.dvd_trans this jl) ll)
  · split
    · rw [List.pairwise_append]
      exact ⟨srt, by simp, fun a ha b hb => by rw [List.mem_singleton.mp hb]; exact lt a ha⟩
    · exact srt
  · intro q hq
    split at hq
    · rcases List.mem_append.mp hq with z | z
      · have := lt q z
        omega
      · rw [List.mem_singleton.mp z]
        exact np
    · have := lt q hq
      omega
  · by_cases z : p ∣ left
    · rw [if_pos z, List.mem_append, List.mem_singleton, mem q]
      constructor
      · rintro (⟨w1, w2, w3⟩ | rfl)
        · exact ⟨w1, w2, fun t => w3 (Nat.dvd_trans t ll)⟩
        · exact ⟨wp z, Nat.dvd_trans z dv, hn⟩
      · rintro ⟨w1, w2, w3⟩
        by_cases t : q ∣ left
        · right
          rw [e] at t
          rcases w1.dvd_mul t with t | t
          · exact wp_pow w1 (wp z) k t
          · exact absurd t w3
        · exact .inl ⟨w1, w2, t⟩
    · rw [if_neg z, mem q]
      have k0 : k = 0 := by
        cases k with
        | zero => rfl
        | succ k => exact absurd ⟨p ^ k * l, by rw [e, Nat.pow_succ, Nat.mul_comm (p ^ k) p, Nat.mul_assoc]⟩ z
      subst k0
      rw [show left = l by simpa using e]
  · split
    · rw [List.length_append]
      show fd.length + 1 < _
      omega
    · omega
theorem WpW.done {n left p : Nat} {fd : List Nat} (h : WpW n left p fd) (hp : left < p * p) (h40 : n < 2 ^ 40) : Rg.primesOf n = fd ++ (if 1 < left then [left] else []) := by
  obtain ⟨n0, l0, p2, podd, nb, srt, lt, mem, dv, len⟩ := h
  obtain ⟨s1, s2⟩ := Rf.primesOf_is n0 h40
  have wl : 1 < left → Rf.WP left := fun z => Rf.wp_of_least (Nat.dvd_refl _) z fun j j2 jl jd => by
    obtain ⟨m, e⟩ := jd
    have jp : p ≤ j := by
      rcases Nat.lt_or_ge j p with q | q
      · exact (nb j j2 q ⟨m, e⟩).elim
      · exact q
    have m2 : 2 ≤ m := by
      rcases Nat.lt_or_ge m 2 with q | q
      · have : m = 0 ∨ m = 1 := by omega
        rcases this with rfl | rfl
        · omega
        · omega
      · exact q
    have mp : p ≤ m := by
      rcases Nat.lt_or_ge m p with q | q
      · exact (nb m m2 q ⟨j, by rw [e, Nat.mul_comm]⟩).elim
      · exact q
    have := Nat.mul_le_mul jp mp
    omega
  have lp : 1 < left → p ≤ left := fun z => by
    rcases Nat.lt_or_ge left p with q | q
    · exact (nb left z q (Nat.dvd_refl _)).elim
    · exact q
  have srt2 : (fd ++ (if 1 < left then [left] else [])).Pairwise (· < ·) := by
    split
    · rename_i z
      rw [List.pairwise_append]
      refine ⟨srt, by simp, fun a ha b hb => ?_⟩
      rw [List.mem_singleton.mp hb]
      have := lt a ha
      have := lp z
      omega
    · simpa using srt
  have ndOf : ∀ {l : List Nat}, l.Pairwise (· < ·) → l.Nodup := fun {l} z => by
    rw [List.nodup_iff_pairwise_ne]
    exact z.imp fun {a b} k => Nat.ne_of_lt k
  have pm : (Rg.primesOf n).Perm (fd ++ (if 1 < left then [left] else [])) := (List.perm_ext_iff_of_nodup (ndOf s1) (ndOf srt2)).mpr fun q => by
    rw [s2 q, List.mem_append, mem q]
    constructor
    · rintro ⟨w1, w2⟩
      by_cases t : q ∣ left
      · right
        have l1 : 1 < left := by
          have := Nat.le_of_dvd (by omega) t
          have := w1.1
          omega
        rw [if_pos l1, List.mem_singleton]
        rcases (wl l1).2 q t with e | e
        · have := w1.1
          omega
        · exact e
      · exact .inl ⟨w1, w2, t⟩
    · rintro (⟨w1, w2, _⟩ | z)
      · exact ⟨w1, w2⟩
      · split at z
        · rename_i l1
          rw [List.mem_singleton.mp z]
          exact ⟨wl l1, dv⟩
        · cases z
  exact pm.eq_of_pairwise (fun a b _ _ x y => by omega) s1 srt2
def wpL (n : Int) : List Nat := if n < 1 then [] else Rg.primesOf n.toNat
def natsD (l : List Nat) : List D := l.map fun p : Nat => D.int p
def preWPrimes : List D → D → Prop := fun as d => ∃ n : Int, as = [.int n] ∧ n < 1000000000000 ∧ d = .lst (natsD (wpL n))
theorem sc_whole_primes_of : FnScope ["n", "found", "left", "p"] ["n"] (defScope s_whole_primes_of) := ⟨rfl, rfl, rfl, by decide +kernel, rfl, by decide +kernel, by decide +kernel⟩
theorem ok_whole_primes_of (F : FunAt K mg "whole_primes_of" s_whole_primes_of) : Fx P w K mg base tb "whole_primes_of" 1 1 preWPrimes := by
  obtain ⟨f, fd, F, hm⟩ := F
  refine fx_of F hm (F.binds (ps := ["n"]) fun _ _ _ _ _ _ us hl => match us, hl with | [_], _ => rfl) sc_whole_primes_of rfl (fun cdv A outer s H E args d hr hn hp => ?_)
  obtain ⟨n, rfl, hn12, rfl⟩ := hp
  refine bx_cons (sx_own 1 xs_nil sc_whole_primes_of.nd) ?_
  refine bx_cons (sx_set 2 (ex_v 0) sc_whole_primes_of.nd) ?_
  refine bx_cons (sx_set 3 ex_int sc_whole_primes_of.nd) ?_
  by_cases h1 : n < 1
  · refine bx_while (fun m ss ow => ss = [some (.int n), none, some (.int n), some (.int 2)] ∧ ow = .lst 1 []) (fun ss ow => ss = [some (.int n), none, some (.int n), some (.int 2)] ∧ ow = .lst 1 []) PassesOwn.never ?_ (m := 0) ⟨rfl, rfl⟩ ?_
    · rintro m ss ow ⟨rfl, rfl⟩
      refine ⟨_, tx_le (ex_mul (ex_v 3) (ex_v 3) ((show Fit 2 2 by decide).mulOk (show Fit 2 2 by decide) (by omega))) (ex_v 2), fun h => ⟨rfl, rfl⟩, fun h => ?_⟩
      have : (2 : Int) * 2 ≤ n := of_decide_eq_true h
      omega
    · rintro ss ow ⟨rfl, rfl⟩
      have e : natsD (wpL n) = [] := by
        rw [show wpL n = [] from if_pos h1]
        rfl
      rw [e]
      refine bx_if_f (Tx.cast (tx_gt (ex_v 2) ex_int) (decide_eq_false (by omega))) ?_
      exact bx_one sx_retOwn
  · obtain ⟨m, rfl⟩ : ∃ m : Nat, n = m := ⟨n.toNat, by omega⟩
    have e : wpL (m : Int) = Rg.primesOf m := if_neg h1
    rw [e]
    have h40 : m < 2 ^ 40 := by
      have : (2 : Nat) ^ 40 = 1099511627776 := by decide
      omega
    have pfit : ∀ p : Nat, p < 2 ^ 20 + 5 → Fit 21 (p : Int) := fun p h => by
      unfold Fit
      have : (2 : Nat) ^ 20 = 1048576 := by decide
      have : (2 : Nat) ^ 21 = 2097152 := by decide
      omega
    have psmall : ∀ p left : Nat, left ≤ m → p * p ≤ left → p < 2 ^ 20 := fun p left a b => by
      rcases Nat.lt_or_ge p (2 ^ 20) with q | q
      · exact q
      · have := Nat.mul_le_mul q q
        have e2 : (2 : Nat) ^ 20 * 2 ^ 20 = 2 ^ 40 := by decide
        omega
    refine bx_while (fun k ss ow => ∃ (left p : Nat) (fd : List Nat), (k = 2 ^ 20 + 5 - p ∧ p < 2 ^ 20 + 5 ∧ left ≤ m ∧ WpW m left p fd) ∧ ss = [some (.int m), none, some (.int left), some (.int p)] ∧ ow = .lst 1 (natsD fd))
      (fun ss ow => ∃ (left p : Nat) (fd : List Nat), (fd.length < 2000000 ∧ Rg.primesOf m = fd ++ (if 1 < left then [left] else [])) ∧ ss = [some (.int m), none, some (.int left), some (.int p)] ∧ ow = .lst 1 (natsD fd)) PassesOwn.never ?_ (m := 2 ^ 20 + 5 - 2) ⟨m, 2, [], ⟨rfl, by decide, Nat.le_refl _, ?_⟩, rfl, rfl⟩ ?_
    · rintro k ss ow ⟨left, p, fd, ⟨rfl, hp, hl, hW⟩, rfl, rfl⟩
      have fp := pfit p hp
      refine ⟨_, tx_le (ex_mul (ex_v 3) (ex_v 3) (fp.mulOk fp (by omega))) (ex_v 2), fun h => ?_, fun h => ?_⟩
      · have q : ¬ (p : Int) * p ≤ left := of_decide_eq_false h
        have q2 : left < p * p := by
          rcases Nat.lt_or_ge left (p * p) with t | t
          · exact t
          · exact (q (by rw [← Int.natCast_mul]; omega)).elim
        exact ⟨left, p, fd, ⟨by have := hW.len; have : (2 : Nat) ^ 20 = 1048576 := by decide
                                omega, hW.done q2 h40⟩, rfl, rfl⟩
      · have q : (p : Int) * p ≤ left := of_decide_eq_true h
        have q2 : p * p ≤ left := by
          rw [← Int.natCast_mul] at q
          omega
        have ps := psmall p left hl q2
        obtain ⟨l, j, el, nl⟩ := strip_ex hW.p2 left hW.l0
        have hW' := hW.step el nl
        have ll : l ≤ left := Nat.le_of_dvd (by have := hW.l0; omega) ⟨p ^ j, by rw [el, Nat.mul_comm]⟩
        have hp2 := hW.p2
        have np : p < nextP p ∧ nextP p ≤ p + 2 := by unfold nextP; split <;> omega
        have pp : (0 : Int) < p := by omega
        have dvm : ∀ u : Nat, ((u : Int) % (p : Int) = 0) ↔ p ∣ u := fun u => by
          rw [← Int.natCast_emod, Nat.dvd_iff_mod_eq_zero]
          omega
        refine ⟨2 ^ 20 + 5 - nextP p, [some (.int m), none, some (.int l), some (.int (nextP p))], .lst 1 (natsD (if p ∣ left then fd ++ [p] else fd)), by omega, ⟨l, nextP p, _, ⟨rfl, by omega, by omega, hW'⟩, rfl, rfl⟩, ?_⟩
        refine bx_cons (ss' := [some (.int m), none, some (.int left), some (.int p)]) (ow' := .lst 1 (natsD (if p ∣ left then fd ++ [p] else fd))) (sx_if (tx_eq (ex_mod (ex_v 2) (ex_v 3) pp) ex_int) (fun h => ?_) (fun h => ?_)) ?_
        · have z : p ∣ left := (dvm left).mp (of_decide_eq_true h)
          rw [if_pos z, show natsD (fd ++ [p]) = natsD fd ++ [.int p] by simp [natsD]]
          exact bx_one (sx_append 1 (ex_v 3) (by have := hW.len; have : (2 : Nat) ^ 20 = 1048576 := by decide
                                                 simp only [natsD, List.length_map]
                                                 omega))
        · have z : ¬ p ∣ left := fun t => of_decide_eq_false h ((dvm left).mpr t)
          rw [if_neg z]
          exact bx_nil
        · generalize natsD (if p ∣ left then fd ++ [p] else fd) = fd'
          refine bx_cons (sx_while (fun k ss ow => ∃ u i : Nat, (k = i ∧ u = p ^ i * l) ∧ ss = [some (.int m), none, some (.int u), some (.int p)] ∧ ow = .lst 1 fd') (fun ss ow => ss = [some (.int m), none, some (.int l), some (.int p)] ∧ ow = .lst 1 fd') PassesOwn.never ?_ (m := j) ⟨left, j, ⟨rfl, el⟩, rfl, rfl⟩ (ss' := [some (.int m), none, some (.int l), some (.int p)]) (ow' := .lst 1 fd') ?_) ?_
          · rintro k ss ow ⟨u, i, ⟨rfl, hu⟩, rfl, rfl⟩
            refine ⟨_, tx_eq (ex_mod (ex_v 2) (ex_v 3) pp) ex_int, fun h => ?_, fun h => ?_⟩
            · have z : ¬ p ∣ u := fun t => of_decide_eq_false h ((dvm u).mpr t)
              cases k with
              | zero =>
                rw [show u = l by simpa using hu]
                exact ⟨rfl, rfl⟩
              | succ k => exact absurd ⟨p ^ k * l, by rw [hu, Nat.pow_succ, Nat.mul_comm (p ^ k) p, Nat.mul_assoc]⟩ z
            · have z : p ∣ u := (dvm u).mp (of_decide_eq_true h)
              cases k with
              | zero => exact absurd (by rw [show u = l by simpa using hu] at z; exact z) nl
              | succ k =>
                have eu : u = p * (p ^ k * l) := by rw [hu, Nat.pow_succ, Nat.mul_comm (p ^ k) p, Nat.mul_assoc]
                have ed : (u : Int) / (p : Int) = ((p ^ k * l : Nat) : Int) := by
                  rw [← Int.natCast_ediv, eu, Nat.mul_div_cancel_left _ (by omega)]
                exact ⟨k, _, .lst 1 fd', by omega, ⟨p ^ k * l, k, ⟨rfl, rfl⟩, rfl, rfl⟩, bx_one (sx_set 2 (Ex.cast (ex_fdiv (ex_v 2) (ex_v 3) pp (Fit.log fp (by omega) pp)) (by rw [ed])) sc_whole_primes_of.nd)⟩
          · rintro ss ow ⟨rfl, rfl⟩
            exact ⟨SubS.refl _, rfl⟩
          · refine bx_one (sx_set 3 (d := .int (nextP p)) (ex_if (tx_eq (ex_v 3) ex_int) (fun h => ?_) (fun h => ?_)) sc_whole_primes_of.nd)
            · have z : p = 2 := by
                have : (p : Int) = 2 := of_decide_eq_true h
                omega
              have e9 : nextP p = 3 := if_pos z
              rw [e9]
              exact ex_int
            · have z : ¬ p = 2 := fun t => of_decide_eq_false h (by rw [t]; rfl)
              have e9 : nextP p = p + 2 := if_neg z
              rw [e9]
              exact Ex.cast (ex_add (ex_v 3) ex_int) (by rw [Int.natCast_add]; rfl)
    · have m0 : m ≠ 0 := by omega
      refine ⟨m0, m0, Nat.le_refl _, .inl rfl, Rf.noBelow_two m, List.Pairwise.nil, (fun _ h => nomatch h), fun q => ⟨(fun h => nomatch h), fun h => absurd h.2.1 h.2.2⟩, Nat.dvd_refl _, by simp⟩
    · rintro ss ow ⟨left, p, fd, ⟨hlen, e⟩, rfl, rfl⟩
      rw [e]
      by_cases z : 1 < left
      · rw [if_pos z]
        refine bx_cons (ss' := [some (.int m), none, some (.int left), some (.int p)]) (ow' := .lst 1 (natsD (fd ++ [left]))) (sx_if (Tx.cast (tx_gt (ex_v 2) ex_int) (decide_eq_true (show (1 : Int) < left by omega))) (fun _ => ?_) (fun h => Bool.noConfusion h)) (bx_one sx_retOwn)
        rw [show natsD (fd ++ [left]) = natsD fd ++ [.int left] by simp [natsD]]
        exact bx_one (sx_append 1 (ex_v 2) (by simp only [natsD, List.length_map]; omega))
      · rw [if_neg z, List.append_nil]
        exact bx_if_f (Tx.cast (tx_gt (ex_v 2) ex_int) (decide_eq_false (show ¬ (1 : Int) < left by omega))) (bx_one sx_retOwn)
theorem form_whole {r : Int} (hR : IsR r) {p : Nat} (hp : 0 < p) : Rg.form (RR r) (Rg.whole p) = Rg.whole p := by
  refine (Rf.form_unique (RR_ok hR) ⟨Rg.one, by simp [Rg.norm, Rg.one], (Rf.mul_one _ _).symm⟩ fun u hu => ?_).symm
  obtain ⟨k, hk, ek⟩ := mem_turn hR Rg.one hu
  rw [Rf.one_mul] at ek
  rw [Rf.mul_whole, ek]
  unfold turnZ
  rw [Rf.one_mul]
  have u6 := units_bounds hR
  have main : ∀ k, k < Rg.unitsOf (RR r) → (Rg.pow (RR r) (Rg.unit1 (RR r)) k).a ≤ 1 ∧ ((Rg.pow (RR r) (Rg.unit1 (RR r)) k).a = 1 → (Rg.pow (RR r) (Rg.unit1 (RR r)) k).b ≤ 0) := by
    rcases isR_cases hR with rfl | rfl | rfl | rfl | rfl <;> decide
  obtain ⟨m1, m2⟩ := main k hk
  generalize Rg.pow (RR r) (Rg.unit1 (RR r)) k = v at *
  have hpi : (0 : Int) < p := by omega
  rcases Rf.before_total (⟨(p : Int) * v.a, (p : Int) * v.b⟩ : Zw) (Rg.whole p) with q | q | q
  · exact .inl q
  · exact .inr q
  · exfalso
    rw [Rf.before_iff] at q
    simp only [Rg.whole] at q
    have a1 := Int.mul_le_mul_of_nonneg_left m1 (Int.le_of_lt hpi)
    rcases q with q | ⟨q1, q2⟩
    · omega
    · have va : v.a = 1 := by
        rcases Int.lt_or_le v.a 1 with z | z
        · have := Int.mul_le_mul_of_nonneg_left (show v.a ≤ 0 by omega) (Int.le_of_lt hpi)
          rw [Int.mul_zero] at this
          omega
        · omega
      have := Int.mul_le_mul_of_nonneg_left (m2 va) (Int.le_of_lt hpi)
      rw [Int.mul_zero] at this
      omega
theorem over_norms {r : Int} (hR : IsR r) {p : Nat} (hp : Rf.WP p) : Rg.over (RR r) p = if Rg.norms (RR r) p = [] then [Rg.whole p] else Rg.norms (RR r) p := by
  have hok := RR_ok hR
  obtain ⟨s1, s2⟩ := Rf.norms_is hok p
  obtain ⟨o1, o2⟩ := Rf.over_is hok hp
  have p2 := hp.1
  split
  · rename_i e
    rcases Rf.over_cases hok hp with ⟨_, h2, _⟩ | ⟨g, hg, h2⟩
    · rw [h2, form_whole hR (by omega)]
    · exfalso
      have : Rg.form (RR r) g ∈ Rg.norms (RR r) p := (s2 _).mpr ⟨by rw [Rf.norm_form hok, hg], Rf.form_form hok g⟩
      rw [e] at this
      cases this
  · rename_i e
    refine Rf.sorted_unique o1 s1 fun z => ?_
    obtain ⟨g, hg⟩ : ∃ g, Rg.norm (RR r) g = (p : Int) := by
      cases hl : Rg.norms (RR r) p with
      | nil => exact absurd hl e
      | cons g l => exact ⟨g, ((s2 g).mp (by rw [hl]; exact List.mem_cons_self ..)).1⟩
    rw [o2, s2]
    constructor
    · rintro ⟨q1, q2, q3⟩
      refine ⟨?_, q2⟩
      have hz := ((Rf.andMirror_is hok hp hg).2 z).mpr ⟨q1, q2, q3⟩
      unfold Rg.andMirror at hz
      rw [Rf.putIn_mem, List.mem_singleton] at hz
      rcases hz with rfl | rfl
      · rw [Rf.norm_form hok, hg]
      · rw [Rf.norm_form hok, Rf.norm_mirror, hg]
    · rintro ⟨q1, q2⟩
      refine ⟨Rf.pr_of_norm hok hp q1, q2, ?_⟩
      have := Rf.dvd_norm (RR r) z
      rwa [q1] at this
theorem sorted_two {r : Int} (hR : IsR r) {p : Nat} (hp : Rf.WP p) : (Rg.over (RR r) p).length = 1 ∨ (Rg.over (RR r) p).length = 2 := by
  have hok := RR_ok hR
  rcases Rf.over_cases hok hp with ⟨_, h2, _⟩ | ⟨g, hg, h2⟩
  · rw [h2]
    exact .inl rfl
  · rw [h2]
    unfold Rg.andMirror Rg.putIn
    split
    · exact .inl rfl
    · split
      · exact .inr rfl
      · exact .inr rfl
theorem lies_is {r : Int} (hR : IsR r) {p : Nat} (hp : Rf.WP p) : ∃ z l, Rg.over (RR r) p = z :: l ∧ ((l.length = 1 ∧ Rg.lies (RR r) p = 1) ∨ (l = [] ∧ Rg.lies (RR r) p = if Rg.norm (RR r) z = (p : Int) then 2 else 0)) := by
  have h := sorted_two hR hp
  unfold Rg.lies
  match e : Rg.over (RR r) p, h with
  | [], h => rcases h with h | h <;> cases h
  | [z], _ => exact ⟨z, [], rfl, .inr ⟨rfl, rfl⟩⟩
  | [z, y], _ => exact ⟨z, [y], rfl, .inl ⟨rfl, rfl⟩⟩
  | _ :: _ :: _ :: _, h =>
    simp only [List.length_cons] at h
    omega
def preOver : List D → D → Prop := fun as d => ∃ (r : Int) (p : Nat), as = [.int r, .int p] ∧ IsR r ∧ Rf.WP p ∧ p ≤ 10000000000 ∧ d = .lst ((Rg.over (RR r) p).map kz)
theorem sc_primes_over : FnScope ["r", "p", "forms"] ["r", "p"] (defScope s_primes_over) := ⟨rfl, rfl, rfl, by decide +kernel, rfl, by decide +kernel, by decide +kernel⟩
theorem ok_primes_over (F : FunAt K mg "primes_over" s_primes_over) (Fn : Fx P w K mg base tb "forms_of_norm" 4 2 preForms) : Fx P w K mg base tb "primes_over" 5 2 preOver := by
  obtain ⟨f, fd, F, hm⟩ := F
  refine fx_of F hm (F.binds (ps := ["r", "p"]) fun _ _ _ _ _ _ us hl => match us, hl with | [_, _], _ => rfl) sc_primes_over rfl (fun cdv A outer s H E args d hr hn hp => ?_)
  obtain ⟨r, p, rfl, hR, hp, p10, rfl⟩ := hp
  have p2 := hp.1
  rw [over_norms hR hp]
  refine bx_cons (sx_set 2 (ex_call Fn hr (xs_cons (ex_v 0) (xs_one (ex_v 1))) ⟨r, p, rfl, hR, by omega, p10, rfl⟩) sc_primes_over.nd) ?_
  refine bx_one (sx_ret (ex_if (tx_lst (ex_v 2)) (fun h => ?_) (fun h => ?_)))
  · have e : Rg.norms (RR r) p ≠ [] := fun z => by
      rw [z] at h
      cases h
    rw [if_neg e]
    exact ex_v 2
  · have e : Rg.norms (RR r) p = [] := by
      cases z : Rg.norms (RR r) p with
      | nil => rfl
      | cons a l =>
        rw [z] at h
        cases h
    rw [if_pos e]
    exact ex_lst (xs_one (ex_key (xs_cons (ex_v 1) (xs_one ex_int))))
def preTake : List D → D → Prop := fun as d => ∃ (r : Int) (x p y : Zw) (k : Nat), as = [.int r, dz x, dz p] ∧ IsR r ∧ FZ 60 x ∧ x ≠ Rg.zero ∧ FZ 4000 p ∧ p ≠ Rg.zero ∧ x = Rg.mul (RR r) (Rg.pow (RR r) p k) y ∧ ¬ Rf.Dvd (RR r) p y ∧ d = .tup [dz y, .int k]
theorem sc_take_out : FnScope ["r", "x", "prime", "left", "often"] ["r", "x", "prime"] (defScope s_take_out) := ⟨rfl, rfl, rfl, by decide +kernel, rfl, by decide +kernel, by decide +kernel⟩
theorem part_norm {r : Int} (hR : IsR r) {x p y : Zw} (hx : x ≠ Rg.zero) {k i : Nat} (e : x = Rg.mul (RR r) (Rg.pow (RR r) p k) y) (h : i ≤ k) : Rg.mul (RR r) (Rg.pow (RR r) p i) y ≠ Rg.zero ∧ Rg.norm (RR r) (Rg.mul (RR r) (Rg.pow (RR r) p i) y) ≤ Rg.norm (RR r) x := by
  have hok := RR_ok hR
  have e2 : x = Rg.mul (RR r) (Rg.pow (RR r) p (k - i)) (Rg.mul (RR r) (Rg.pow (RR r) p i) y) := by
    rw [← Rf.mul_assoc, ← Rf.pow_add, show k - i + i = k by omega]
    exact e
  generalize Rg.mul (RR r) (Rg.pow (RR r) p i) y = z at *
  generalize Rg.pow (RR r) p (k - i) = q at *
  have hn := Rf.norm_mul (RR r) q z
  rw [← e2] at hn
  have px := Rf.norm_pos hok hx
  have nq := Rf.norm_nonneg hok q
  have nz := Rf.norm_nonneg hok z
  have q0 : 0 < Rg.norm (RR r) q := by
    rcases Int.lt_or_le 0 (Rg.norm (RR r) q) with t | t
    · exact t
    · have : Rg.norm (RR r) q = 0 := by omega
      rw [this, Int.zero_mul] at hn
      omega
  refine ⟨fun t => ?_, ?_⟩
  · rw [t] at hn
    have : Rg.norm (RR r) Rg.zero = 0 := by simp [Rg.norm, Rg.zero]
    rw [this, Int.mul_zero] at hn
    omega
  · have := Int.mul_le_mul_of_nonneg_right (show (1 : Int) ≤ Rg.norm (RR r) q by omega) nz
    omega
theorem ok_take_out (F : FunAt K mg "take_out" s_take_out) (c2 : CT K mg "ZERO" (dz Rg.zero)) (Qu : Fx P w K mg base tb "quotient" 5 3 preQuot) (Re : Fx P w K mg base tb "rest_of" 6 3 preRest) : Fx P w K mg base tb "take_out" 7 3 preTake := by
  obtain ⟨f, fd, F, hm⟩ := F
  refine fx_of F hm (F.binds (ps := ["r", "x", "prime"]) fun _ _ _ _ _ _ us hl => match us, hl with | [_, _, _], _ => rfl) sc_take_out rfl (fun cdv A outer s H E args d hr hn hp => ?_)
  obtain ⟨r, x, p, y, k, rfl, hR, hx, x0, hp, p0, e, nd, rfl⟩ := hp
  have hok := RR_ok hR
  have fit : ∀ i, i ≤ k → FZ 2000000 (Rg.mul (RR r) (Rg.pow (RR r) p i) y) := fun i hi => by
    refine (fz_of_norm hR (n := 124) ?_).mono (by omega)
    have a := (part_norm hR x0 e hi).2
    have b := Rf.norm_nonneg hok (Rg.mul (RR r) (Rg.pow (RR r) p i) y)
    have c := (hx.norm hR).mono (show _ ≤ 124 by omega)
    unfold Fit at *
    omega
  refine bx_cons (sx_set 3 (ex_v 1) sc_take_out.nd) ?_
  refine bx_cons (sx_set 4 ex_int sc_take_out.nd) ?_
  refine bx_cons (sx_while (fun i ss ow => i ≤ k ∧ ss = [some (.int r), some (dz x), some (dz p), some (dz (Rg.mul (RR r) (Rg.pow (RR r) p i) y)), some (.int (k - i : Nat))] ∧ ow = .no) (fun ss ow => ss = [some (.int r), some (dz x), some (dz p), some (dz y), some (.int k)] ∧ ow = .no)
    PassesOwn.never ?_ (m := k) ⟨Nat.le_refl _, by rw [← e, Nat.sub_self]; rfl, rfl⟩ (ss' := [some (.int r), some (dz x), some (dz p), some (dz y), some (.int k)]) (ow' := .no) ?_) ?_
  · rintro i ss ow ⟨hi, rfl, rfl⟩
    refine ⟨_, tx_eqZ hr (Ex.pair (ex_call Re hr (xs_cons (ex_v 0) (xs_cons (ex_v 3) (xs_one (ex_v 2)))) ⟨r, _, p, rfl, hR, fit i hi, hp, p0, rfl⟩)) (ex_ct c2), fun h => ?_, fun h => ?_⟩
    · have q : ¬ Rg.rest (RR r) (Rg.mul (RR r) (Rg.pow (RR r) p i) y) p = Rg.zero := of_decide_eq_false h
      cases i with
      | zero =>
        rw [show Rg.pow (RR r) p 0 = Rg.one from rfl, Rf.one_mul]
        exact ⟨rfl, rfl⟩
      | succ i =>
        exfalso
        refine q ?_
        rw [Rf.pow_succ', Rf.mul_assoc]
        exact (Rf.rest_dvd hok p0).1
    · have q : Rg.rest (RR r) (Rg.mul (RR r) (Rg.pow (RR r) p i) y) p = Rg.zero := of_decide_eq_true h
      cases i with
      | zero =>
        exfalso
        refine nd ?_
        rw [show Rg.pow (RR r) p 0 = Rg.one from rfl, Rf.one_mul] at q
        exact ⟨_, Rf.of_rest q⟩
      | succ i =>
        have eq1 : Rg.quot (RR r) (Rg.mul (RR r) (Rg.pow (RR r) p (i + 1)) y) p = Rg.mul (RR r) (Rg.pow (RR r) p i) y := by
          rw [Rf.pow_succ', Rf.mul_assoc]
          exact (Rf.rest_dvd hok p0).2
        refine ⟨i, [some (.int r), some (dz x), some (dz p), some (dz (Rg.mul (RR r) (Rg.pow (RR r) p i) y)), some (.int (k - i : Nat))], .no, by omega, ⟨by omega, rfl, rfl⟩, ?_⟩
        refine bx_cons (sx_set 3 (d := dz (Rg.mul (RR r) (Rg.pow (RR r) p i) y)) (Ex.cast (Ex.pair (ex_call (Qu.mono (k := 6) (by decide)) hr (xs_cons (ex_v 0) (xs_cons (ex_v 3) (xs_one (ex_v 2)))) ⟨r, _, p, rfl, hR, fit _ hi, hp, p0, rfl⟩)) (by rw [eq1]; rfl)) sc_take_out.nd) ?_
        exact bx_one (sx_set 4 (d := .int (k - i : Nat)) (Ex.cast (ex_add (ex_v 4) ex_int) (congrArg D.int (by omega))) sc_take_out.nd)
  · rintro ss ow ⟨rfl, rfl⟩
    exact ⟨SubS.refl _, rfl⟩
  · exact bx_one (sx_ret (ex_tup (xs_cons (ex_v 3) (xs_one (ex_v 4)))))
def bothL (r : Int) (x : Zw) (p : Nat) : List Zw := if Rg.norm (RR r) (Rg.gcd (RR r) x (Rg.whole p)).d = (p : Int) then [(Rg.gcd (RR r) x (Rg.whole p)).d] else Rg.over (RR r) p
def preBoth : List D → D → Prop := fun as d => ∃ (r : Int) (x : Zw) (p : Nat), as = [.int r, dz x, .int p] ∧ IsR r ∧ FZ 60 x ∧ Rf.WP p ∧ p < 2 ^ 50 ∧ (Rg.norm (RR r) (Rg.gcd (RR r) x (Rg.whole p)).d ≠ (p : Int) → p ≤ 10000000000) ∧ d = .lst ((bothL r x p).map dz)
theorem sc_primes_of_both : FnScope ["r", "x", "p", "shared"] ["r", "x", "p"] (defScope s_primes_of_both) := ⟨rfl, rfl, rfl, by decide +kernel, rfl, by decide +kernel, by decide +kernel⟩
theorem wks_kd : ∀ l : List Zw, Wks (l.map kz) (l.map dz)
  | [] => .nil
  | z :: l => .cons (.key _ _) (wks_kd l)
theorem ok_primes_of_both (F : FunAt K mg "primes_of_both" s_primes_of_both) (Gd : Fx P w K mg base tb "common_divisor" 6 3 preGcd) (No : Fx P w K mg base tb "norm_of" 1 2 preNorm) (Ov : Fx P w K mg base tb "primes_over" 5 2 preOver) : Fx P w K mg base tb "primes_of_both" 7 3 preBoth := by
  obtain ⟨f, fd, F, hm⟩ := F
  refine fx_of F hm (F.binds (ps := ["r", "x", "p"]) fun _ _ _ _ _ _ us hl => match us, hl with | [_, _, _], _ => rfl) sc_primes_of_both rfl (fun cdv A outer s H E args d hr hn hp => ?_)
  obtain ⟨r, x, p, rfl, hR, hx, wp, p50, h10, rfl⟩ := hp
  have hB := BIG_eq
  have fw : FZ 60 (Rg.whole p) := ⟨by
    show Fit 60 (p : Int)
    unfold Fit
    have : (2 : Nat) ^ 50 ≤ 2 ^ 60 := Nat.pow_le_pow_right (by decide) (by decide)
    omega, (show Fit 1 0 by decide).mono (by omega)⟩
  obtain ⟨g1, _, _⟩ := gcd_fit hR hx fw
  refine bx_cons (sx_set 3 (ex_ixL (ex_call Gd hr (xs_cons (ex_v 0) (xs_cons (ex_v 1) (xs_one (ex_tup (xs_cons (ex_v 2) (xs_one ex_int)))))) ⟨r, x, Rg.whole p, rfl, hR, hx, fw, rfl⟩) ex_int (by rfl)) sc_primes_of_both.nd) ?_
  refine bx_one (sx_ret (ex_if (tx_eq (ex_call (No.mono (k := 6) (by decide)) hr (xs_cons (ex_v 0) (xs_one (ex_v 3))) ⟨r, _, rfl, hR, g1.mono (by omega), rfl⟩) (ex_v 2)) (fun h => ?_) (fun h => ?_)))
  · have q : Rg.norm (RR r) (Rg.gcd (RR r) x (Rg.whole p)).d = (p : Int) := of_decide_eq_true h
    rw [show bothL r x p = [(Rg.gcd (RR r) x (Rg.whole p)).d] from if_pos q]
    exact ex_lst (xs_one (ex_v 3))
  · have q : ¬ Rg.norm (RR r) (Rg.gcd (RR r) x (Rg.whole p)).d = (p : Int) := of_decide_eq_false h
    rw [show bothL r x p = Rg.over (RR r) p from if_neg q]
    exact Ex.wk (ex_call (Ov.mono (k := 6) (by decide)) hr (xs_cons (ex_v 0) (xs_one (ex_v 2))) ⟨r, p, rfl, hR, wp, h10 q, rfl⟩) (.lst (wks_kd _))
def rowD (r : Int) (q : Zw × Nat) : D := .tup [.int (Rg.norm (RR r) q.1), dz q.1, .int q.2]
def rowOf (r : Int) (q : Zw × Nat) : RowK := ⟨Rg.norm (RR r) q.1, q.1.a, q.1.b, q.2⟩
theorem rows_of (r : Int) (l : List (Zw × Nat)) : l.map (rowD r) = (l.map (rowOf r)).map rowK := by
  rw [List.map_map]
  rfl
theorem rows_rise {r : Int} {L : List (Zw × Nat)} (so : Rf.SSorted (RR r) (L.map (·.1))) : (L.map (rowOf r)).Pairwise fun x y => ltRow y x = false := by
  have q : (L.map (·.1)).Pairwise fun x y => Rg.sooner (RR r) x y = true := so
  rw [List.pairwise_map] at q ⊢
  refine q.imp fun {a b} h => ?_
  rw [Rf.sooner_iff] at h
  have e : Rg.before a.1 b.1 = true ↔ a.1.a < b.1.a ∨ (a.1.a = b.1.a ∧ a.1.b < b.1.b) := by simp [Rg.before]
  rw [e] at h
  refine decide_eq_false ?_
  show ¬ (Rg.norm (RR r) b.1 < Rg.norm (RR r) a.1 ∨ (Rg.norm (RR r) b.1 = Rg.norm (RR r) a.1 ∧ (b.1.a < a.1.a ∨ (b.1.a = a.1.a ∧ (b.1.b < a.1.b ∨ (b.1.b = a.1.b ∧ (b.2 : Int) < a.2))))))
  omega
theorem ex_sortedRows {X : Cx} {ss : Ss} {k i : Nat} {r : Int} {x : Str} {p1 p2 pos : Pos} {L rs : List (Zw × Nat)} (hr : Room k X.A) (hm : X.mg "sorted" = none) (hl : rs.length < 64) (hp : L.Perm rs) (so : Rf.SSorted (RR r) (L.map (·.1))) (hg : Gl X "sorted" := by rfl) (hN : X.N[i]? = some x := by rfl) (hbb : bootBuiltins "sorted" = some (.builtin "sorted") := by decide +kernel)
    (hv : Vis X.env.scope x := by first | exact Or.inl rfl | exact Or.inr (Or.inl rfl) | exact Or.inr (Or.inr rfl)) (hd : (x == ("__debug__" : Str)) = false := by decide)
    (hcd : (x == ("__classdict__" : Str)) = false := by decide) : Ex tb X (.Call (.Name "sorted" p1) [.Name x p2] [] pos) ss (.lst i (rs.map (rowD r))) (.lst (L.map (rowD r))) := by
  rw [rows_of, rows_of]
  exact ex_sortedK hr hm (by rw [List.length_map]; exact hl) (hp.map _) (rows_rise so) hg hN hbb hv hd hcd
def preFactors : List D → D → Prop := fun as d => ∃ (r : Int) (x : Zw), as = [.int r, dz x] ∧ IsR r ∧ FZ 60 x ∧ Rg.norm (RR r) x < 100000000000 ∧ x.a.natAbs ≤ 100000 ∧ x.b.natAbs ≤ 100000 ∧ d = .tup [dz (Rg.factors (RR r) x).unit, .lst ((Rg.factors (RR r) x).primes.map (rowD r))]
theorem sc_factors_of : FnScope ["r", "x", "found", "left", "p", "prime", "taken"] ["r", "x"] (defScope s_factors_of) := ⟨rfl, rfl, rfl, by decide +kernel, rfl, by decide +kernel, by decide +kernel⟩
def upTo (r : Int) (x : Zw) (ps : List Nat) (j : Nat) : List Zw := (ps.take j).flatMap (Rf.both (RR r) x)
theorem upTo_succ {r : Int} {x : Zw} {ps : List Nat} {j p : Nat} (h : ps[j]? = some p) : upTo r x ps (j + 1) = upTo r x ps j ++ Rf.both (RR r) x p := by
  unfold upTo
  rw [take_snoc' h, List.flatMap_append]
  simp
theorem takeAll_snoc (R : Ring) (x : Zw) (l : List Zw) (z : Zw) : Rf.takeAll R x (l ++ [z]) = Rf.takeStep R (Rf.takeAll R x l) z := by
  unfold Rf.takeAll
  rw [List.foldl_append]
  rfl
theorem dvd_whole_le {r : Int} {x : Zw} {p : Nat} (hx : x ≠ Rg.zero) (h : Rf.Dvd (RR r) (Rg.whole p) x) (ha : x.a.natAbs ≤ 100000) (hb : x.b.natAbs ≤ 100000) : p ≤ 100000 := by
  obtain ⟨h1, h2⟩ := Rf.dvd_whole.mp h
  by_cases a0 : x.a = 0
  · have b0 : x.b ≠ 0 := fun z => hx (by cases x; simp only at a0 z; rw [a0, z]; rfl)
    have := Int.natAbs_dvd_natAbs.mpr h2
    rw [Int.natAbs_natCast] at this
    have := Nat.le_of_dvd (by omega) this
    omega
  · have := Int.natAbs_dvd_natAbs.mpr h1
    rw [Int.natAbs_natCast] at this
    have := Nat.le_of_dvd (by omega) this
    omega
theorem ok_factors_of (F : FunAt K mg "factors_of" s_factors_of) (hsort : mg "sorted" = none) (No : Fx P w K mg base tb "norm_of" 1 2 preNorm) (Wp : Fx P w K mg base tb "whole_primes_of" 1 1 preWPrimes) (Bo : Fx P w K mg base tb "primes_of_both" 7 3 preBoth) (Ta : Fx P w K mg base tb "take_out" 7 3 preTake) :
    Fx P w K mg base tb "factors_of" 8 2 preFactors := by
  obtain ⟨f, fd, F, hm⟩ := F
  refine fx_of F hm (F.binds (ps := ["r", "x"]) fun _ _ _ _ _ _ us hl => match us, hl with | [_, _], _ => rfl) sc_factors_of rfl (fun cdv A outer s H E args d hr hn hp => ?_)
  obtain ⟨r, x, rfl, hR, fx, hs, xa, xb, rfl⟩ := hp
  have hB := BIG_eq
  by_cases x0 : x = Rg.zero
  · subst x0
    rw [Rf.factors_zero]
    have e : wpL (Rg.norm (RR r) Rg.zero) = [] := by
      rw [show Rg.norm (RR r) Rg.zero = 0 by simp [Rg.norm, Rg.zero]]
      rfl
    refine bx_cons (sx_own 2 xs_nil sc_factors_of.nd) ?_
    refine bx_cons (sx_set 3 (ex_v 1) sc_factors_of.nd) ?_
    refine bx_cons (sx_for 4 (fun j ss ow => ss = [some (.int r), some (dz Rg.zero), none, some (dz Rg.zero), none, none, none] ∧ ow = .lst 2 []) PassesOwn.never rfl sc_factors_of.nd
      (ex_call (Wp.mono (k := 7) (by decide)) hr (xs_one (ex_call (No.mono (k := 7) (by decide)) hr (xs_cons (ex_v 0) (xs_one (ex_v 1))) ⟨r, Rg.zero, rfl, hR, fx.mono (by omega), rfl⟩)) ⟨_, rfl, by omega, rfl⟩) ⟨rfl, rfl⟩ (fun j d ss ow hj => ?_)
      (ss' := [some (.int r), some (dz Rg.zero), none, some (dz Rg.zero), none, none, none]) (ow' := .lst 2 []) ?_) ?_
    · rw [e] at hj
      simp [natsD] at hj
    · rintro ss ow ⟨rfl, rfl⟩
      exact ⟨SubS.refl _, rfl⟩
    · exact bx_one (sx_ret (ex_tup (xs_cons (ex_v 3) (xs_one (ex_sortedRows (r := r) (L := []) (rs := []) hr hsort (by show 0 < 64; omega) (List.Perm.refl _) List.Pairwise.nil)))))
  have hok := RR_ok hR
  have n0 := Rf.norm_pos hok x0
  have h40 : Rg.norm (RR r) x < 2 ^ 40 := by
    have : (2 : Int) ^ 40 = 1099511627776 := by decide
    omega
  obtain ⟨ps, hps⟩ : ∃ ps, ps = Rg.primesOf (Rg.norm (RR r) x).natAbs := ⟨_, rfl⟩
  have hwp : wpL (Rg.norm (RR r) x) = ps := by
    rw [hps, show wpL (Rg.norm (RR r) x) = Rg.primesOf (Rg.norm (RR r) x).toNat from if_neg (by omega), show (Rg.norm (RR r) x).toNat = (Rg.norm (RR r) x).natAbs by omega]
  have e40 : (((Rg.norm (RR r) x).natAbs : Nat) : Int) = Rg.norm (RR r) x := by omega
  have p40 : (2 : Nat) ^ 40 = 1099511627776 := by decide
  obtain ⟨s1, s2⟩ := Rf.primesOf_is (n := (Rg.norm (RR r) x).natAbs) (by omega) (by omega)
  rw [← hps] at s1 s2
  have mem := Rf.inOrder_mem hok x0 h40
  have nd := Rf.inOrder_nodup hok x0 h40
  have eo : Rf.inOrder (RR r) x = ps.flatMap (Rf.both (RR r) x) := by rw [hps]; rfl
  -- a first part of the primes
  have took : ∀ l k : List Zw, Rf.inOrder (RR r) x = l ++ k → Rf.Took (RR r) x (Rf.takeAll (RR r) x l).1 (Rf.takeAll (RR r) x l).2 ∧ (Rf.takeAll (RR r) x l).2.map (·.1) = l := fun l k e => by
    have p128 : (2 : Int) ^ 40 ≤ 2 ^ 128 := by decide
    rw [e] at nd
    exact Rf.took_all hok x0 (by omega) (List.nodup_append.mp nd).1 fun z hz => (mem z).mp (by rw [e]; exact List.mem_append_left _ hz)
  obtain ⟨L, hL, so⟩ : ∃ L : List (Zw × Nat), L.Perm (Rf.takeAll (RR r) x (Rf.inOrder (RR r) x)).2 ∧ Rf.SSorted (RR r) (L.map (·.1)) := by
    obtain ⟨_, t2⟩ := took _ [] (List.append_nil _).symm
    exact Rf.sort_rows _ (by rw [t2]; exact nd)
  have hlen : (Rf.takeAll (RR r) x (Rf.inOrder (RR r) x)).2.length < 64 := by
    have := (took _ [] (List.append_nil _).symm).1.few hok x0 h40
    omega
  rw [Rf.factors_rows hok x0 h40 hL so]
  refine bx_cons (sx_own 2 xs_nil sc_factors_of.nd) ?_
  refine bx_cons (sx_set 3 (ex_v 1) sc_factors_of.nd) ?_
  refine bx_cons (sx_for 4 (fun j ss ow => ∃ a b c, ss = [some (.int r), some (dz x), none, some (dz (Rf.takeAll (RR r) x (upTo r x ps j)).1), a, b, c] ∧ ow = .lst 2 ((Rf.takeAll (RR r) x (upTo r x ps j)).2.map (rowD r))) PassesOwn.never rfl sc_factors_of.nd
    (ex_call (Wp.mono (k := 7) (by decide)) hr (xs_one (ex_call (No.mono (k := 7) (by decide)) hr (xs_cons (ex_v 0) (xs_one (ex_v 1))) ⟨r, x, rfl, hR, fx.mono (by omega), rfl⟩)) ⟨_, rfl, by omega, rfl⟩) ⟨_, _, _, rfl, rfl⟩ ?_
    (ss' := [some (.int r), some (dz x), none, some (dz (Rf.takeAll (RR r) x (Rf.inOrder (RR r) x)).1), none, none, none]) (ow' := .lst 2 ((Rf.takeAll (RR r) x (Rf.inOrder (RR r) x)).2.map (rowD r))) ?_) ?_
  · rintro j d ss ow hj ⟨a, b, c, rfl, rfl⟩
    rw [hwp] at hj
    obtain ⟨p, hp, rfl⟩ : ∃ p, ps[j]? = some p ∧ D.int (p : Nat) = d := by
      unfold natsD at hj
      rw [List.getElem?_map] at hj
      cases e : ps[j]? with
      | none => rw [e] at hj; cases hj
      | some p => rw [e] at hj; exact ⟨p, rfl, Option.some.inj hj⟩
    obtain ⟨wp, pd⟩ := (s2 p).mp (List.mem_of_getElem? hp)
    have pN : (p : Int) ∣ Rg.norm (RR r) x := by
      rw [← e40]
      exact Int.ofNat_dvd.mpr pd
    have p11 : p < 2 ^ 50 := by
      have := Nat.le_of_dvd (by omega) pd
      have : (2 : Nat) ^ 50 = 1125899906842624 := by decide
      omega
    have split : ∃ k, Rf.inOrder (RR r) x = (upTo r x ps j ++ Rf.both (RR r) x p) ++ k := by
      refine ⟨(ps.drop (j + 1)).flatMap (Rf.both (RR r) x), ?_⟩
      rw [← upTo_succ hp, eo]
      unfold upTo
      rw [← List.flatMap_append, List.take_append_drop]
    obtain ⟨rest, hrest⟩ := split
    refine ⟨rfl, [some (.int r), some (dz x), none, some (dz (Rf.takeAll (RR r) x (upTo r x ps (j + 1))).1), some (.int p), none, none], .lst 2 ((Rf.takeAll (RR r) x (upTo r x ps (j + 1))).2.map (rowD r)), ?_, some (.int p), none, none, rfl, rfl⟩
    refine bx_one (sx_for 5 (fun i ss ow => ∃ b c, ss = [some (.int r), some (dz x), none, some (dz (Rf.takeAll (RR r) x (upTo r x ps j ++ (Rf.both (RR r) x p).take i)).1), some (.int p), b, c] ∧ ow = .lst 2 ((Rf.takeAll (RR r) x (upTo r x ps j ++ (Rf.both (RR r) x p).take i)).2.map (rowD r))) PassesOwn.never rfl sc_factors_of.nd
      (ex_call Bo hr (xs_cons (ex_v 0) (xs_cons (ex_v 1) (xs_one (ex_v 4)))) ⟨r, x, p, rfl, hR, fx, wp, p11, fun e => by have := dvd_whole_le x0 (Rf.both_small hok x0 wp pN e) xa xb; omega, rfl⟩) ⟨_, _, by rw [List.take_zero, List.append_nil]; rfl, by rw [List.take_zero, List.append_nil]⟩ ?_ ?_)
    · rintro i d ss ow hi ⟨b, c, rfl, rfl⟩
      obtain ⟨z, hz, rfl⟩ : ∃ z, (Rf.both (RR r) x p)[i]? = some z ∧ dz z = d := by
        rw [List.getElem?_map] at hi
        cases e : (bothL r x p)[i]? with
        | none => rw [e] at hi; cases hi
        | some z => rw [e] at hi; exact ⟨z, e, Option.some.inj hi⟩
      obtain ⟨z1, z2, z3, z4⟩ := (Rf.both_mem hok x0 wp pN z).mp (List.mem_of_getElem? hz)
      have hcut : Rf.inOrder (RR r) x = (upTo r x ps j ++ (Rf.both (RR r) x p).take i) ++ ((Rf.both (RR r) x p).drop i ++ rest) := by
        rw [hrest, List.append_assoc, List.append_assoc, ← List.append_assoc ((Rf.both (RR r) x p).take i), List.take_append_drop]
      obtain ⟨t1, t2⟩ := took _ _ hcut
      obtain ⟨y0, yn⟩ := Rf.dvd_small hok x0 t1.left
      have few := t1.few hok x0 h40
      have enext : Rf.takeAll (RR r) x (upTo r x ps j ++ (Rf.both (RR r) x p).take (i + 1)) = Rf.takeStep (RR r) (Rf.takeAll (RR r) x (upTo r x ps j ++ (Rf.both (RR r) x p).take i)) z := by
        rw [take_snoc' hz, ← List.append_assoc, takeAll_snoc]
      generalize Rf.takeAll (RR r) x (upTo r x ps j ++ (Rf.both (RR r) x p).take i) = S at *
      have p128 : (2 : Int) ^ 40 ≤ 2 ^ 128 := by decide
      obtain ⟨o1, o2, _⟩ := Rf.often_is hok z1 128 S.1 y0 (by omega)
      have fS : FZ 60 S.1 := by
        refine (fz_of_norm hR (n := 41) ?_).mono (by omega)
        have := Rf.norm_nonneg hok S.1
        have : (2 : Nat) ^ 41 = 2199023255552 := by decide
        unfold Fit
        omega
      have fz : FZ 4000 z := by
        refine (fz_of_norm hR (n := 41) ?_).mono (by omega)
        have a1 := (Rf.dvd_small hok x0 z4).2
        have := Rf.norm_nonneg hok z
        have : (2 : Nat) ^ 41 = 2199023255552 := by decide
        unfold Fit
        omega
      rw [enext]
      refine ⟨rfl, [some (.int r), some (dz x), none, some (dz (Rg.often (RR r) 128 S.1 z).2), some (.int p), some (dz z), some (.tup [dz (Rg.often (RR r) 128 S.1 z).2, .int (Rg.often (RR r) 128 S.1 z).1])], .lst 2 (S.2.map (rowD r) ++ [rowD r (z, (Rg.often (RR r) 128 S.1 z).1)]), ?_, some (dz z), some (.tup [dz (Rg.often (RR r) 128 S.1 z).2, .int (Rg.often (RR r) 128 S.1 z).1]), rfl, by simp [Rf.takeStep]⟩
      refine bx_cons (sx_set 6 (ex_call Ta hr (xs_cons (ex_v 0) (xs_cons (ex_v 3) (xs_one (ex_v 5)))) ⟨r, S.1, z, _, _, rfl, hR, fS, y0, fz, z1.1, o1, o2, rfl⟩) sc_factors_of.nd) ?_
      refine bx_cons (sx_set 3 (ex_ixT (ex_v 6) ex_int (by rfl)) sc_factors_of.nd) ?_
      exact bx_one (sx_append 2 (ex_tup (xs_cons (ex_call (No.mono (k := 7) (by decide)) hr (xs_cons (ex_v 0) (xs_one (ex_v 5))) ⟨r, z, rfl, hR, fz.mono (by omega), rfl⟩) (xs_cons (ex_v 5) (xs_one (ex_ixT (ex_v 6) ex_int (by rfl)))))) (by rw [List.length_map]; omega))
    · rintro ss ow ⟨b, c, rfl, rfl⟩
      have e9 : upTo r x ps j ++ (Rf.both (RR r) x p).take ((bothL r x p).map dz).length = upTo r x ps (j + 1) := by
        rw [upTo_succ hp, List.length_map]
        show _ ++ (Rf.both (RR r) x p).take (Rf.both (RR r) x p).length = _
        rw [List.take_length]
      rw [e9]
      exact ⟨⟨rfl, rfl, rfl, rfl, trivial⟩, rfl⟩
  · rintro ss ow ⟨a, b, c, rfl, rfl⟩
    rw [hwp]
    have : upTo r x ps (natsD ps).length = Rf.inOrder (RR r) x := by
      unfold upTo natsD
      rw [List.length_map, List.take_length, eo]
    rw [this]
    exact ⟨⟨rfl, rfl, rfl, trivial⟩, rfl⟩
  · exact bx_one (sx_ret (ex_tup (xs_cons (ex_v 3) (xs_one (ex_sortedRows hr hsort hlen hL so)))))
def preIsPrime : List D → D → Prop := fun as d => ∃ (r : Int) (x : Zw), as = [.int r, dz x] ∧ IsR r ∧ FZ 60 x ∧ Rg.norm (RR r) x < 100000000000 ∧ x.a.natAbs ≤ 100000 ∧ x.b.natAbs ≤ 100000 ∧ d = .bl (decide (((Rg.factors (RR r) x).primes.map fun (f : Zw × Nat) => f.2) = [1]))
theorem sc_is_prime : FnScope ["r", "x", "found"] ["r", "x"] (defScope s_is_prime) := ⟨rfl, rfl, rfl, by decide +kernel, rfl, by decide +kernel, by decide +kernel⟩
theorem ok_is_prime (F : FunAt K mg "is_prime" s_is_prime) (hlen : mg "len" = none) (Fa : Fx P w K mg base tb "factors_of" 8 2 preFactors) : Fx P w K mg base tb "is_prime" 9 2 preIsPrime := by
  obtain ⟨f, fd, F, hm⟩ := F
  refine fx_of F hm (F.binds (ps := ["r", "x"]) fun _ _ _ _ _ _ us hl => match us, hl with | [_, _], _ => rfl) sc_is_prime rfl (fun cdv A outer s H E args d hr hn hp => ?_)
  obtain ⟨r, x, rfl, hR, fx, hs, xa, xb, rfl⟩ := hp
  obtain ⟨L, hL⟩ : ∃ L, L = (Rg.factors (RR r) x).primes := ⟨_, rfl⟩
  rw [← hL]
  refine bx_cons (sx_set 2 (d := .lst (L.map (rowD r))) (ex_ixT (ex_call Fa hr (xs_cons (ex_v 0) (xs_one (ex_v 1))) ⟨r, x, rfl, hR, fx, hs, xa, xb, rfl⟩) ex_int (by rw [hL]; rfl)) sc_is_prime.nd) ?_
  refine bx_one (sx_ret ?_)
  match L with
  | [] => exact Ex.cast (ex_and (k' := true) (ex_eq (ex_lenL (ds := []) hlen (ex_v 2)) ex_int) (fun h => Bool.noConfusion h)) rfl
  | [q] =>
    refine Ex.cast (ex_and (ex_eq (ex_lenL (ds := [rowD r q]) hlen (ex_v 2)) ex_int) (fun _ => ex_and1 (ex_eq (ex_ixT (ex_ixL (ds := [rowD r q]) (ex_v 2) ex_int (by rfl)) ex_int (by rfl)) ex_int))) ?_
    refine congrArg D.bl ?_
    rw [Bool.eq_iff_iff]
    simp
    omega
  | q :: q2 :: l =>
    refine Ex.cast (ex_and (k := false) (k' := true) (Ex.cast (ex_eq (ex_lenL (ds := rowD r q :: rowD r q2 :: l.map (rowD r)) hlen (ex_v 2)) ex_int) (congrArg D.bl (decide_eq_false (by simp only [List.length_cons]; omega)))) (fun h => Bool.noConfusion h)) ?_
    refine congrArg D.bl ?_
    simp
section
variable {X : Cx} {ss : Ss} {ow : Ow} {e : Expr} {pos p1 : Pos} {i : Int}
theorem ex_abs (hm : X.mg "abs" = none) (h : Ex tb X e ss ow (.int i)) (hg : Gl X "abs" := by rfl) (hb : bootBuiltins "abs" = some (.builtin "abs") := by decide +kernel) (hs : starEach [e] X.env = [(false, eval e X.env)] := by rfl) : Ex tb X (.Call (.Name "abs" p1) [e] [] pos) ss ow (.int i.natAbs) :=
  PE.imp (pe_callB call_abs hg hm hb (xs_one h hs) (he := hs)) fun σ H Q ⟨A, H0, po, S, k⟩ => ⟨A, H0, po, S, fun vs H' m z => by
    have e1 : vs = [i].map V.int := Dqs.of_ints (ns := [i]) z
    subst e1
    refine ⟨i, rfl, ?_⟩
    have e2 : (if i < 0 then -i else i) = (i.natAbs : Int) := by
      split <;> omega
    rw [e2]
    exact k _ H' m (.int _)⟩
end
def preSmall : List D → D → Prop := fun as d => ∃ x : Zw, as = [dz x] ∧ d = .bl (Rings.small x)
theorem sc_is_small : FnScope ["x"] ["x"] (defScope s_is_small) := ⟨rfl, rfl, rfl, by decide +kernel, rfl, by decide +kernel, by decide +kernel⟩
theorem ok_is_small (F : FunAt K mg "is_small" s_is_small) (habs : mg "abs" = none) (c : CI mg "LARGEST_SMALL_PART" 100000) : Fx P w K mg base tb "is_small" 1 1 preSmall := by
  obtain ⟨f, fd, F, hm⟩ := F
  refine fx_of F hm (F.binds (ps := ["x"]) fun _ _ _ _ _ _ us hl => match us, hl with | [_], _ => rfl) sc_is_small rfl (fun cdv A outer s H E args d hr hn hp => ?_)
  obtain ⟨x, rfl, rfl⟩ := hp
  refine bx_one (sx_ret (Ex.cast (ex_and (ex_le (ex_abs habs (za 0)) (ex_ci c)) (fun _ => ex_and1 (ex_le (ex_abs habs (zb 0)) (ex_ci c)))) ?_))
  refine congrArg D.bl ?_
  have e : ∀ i : Int, decide ((i.natAbs : Int) ≤ 100000) = decide (i.natAbs ≤ Rings.PART) := fun i => decide_eq_decide.mpr (by show (i.natAbs : Int) ≤ 100000 ↔ i.natAbs ≤ 100000; omega)
  rw [e, e]
  rfl
theorem small_is {x : Zw} (h : Rings.small x = true) : x.a.natAbs ≤ 100000 ∧ x.b.natAbs ≤ 100000 := by
  unfold Rings.small at h
  rw [Bool.and_eq_true] at h
  exact ⟨of_decide_eq_true h.1, of_decide_eq_true h.2⟩
theorem small_norm {r : Int} (hR : IsR r) {x : Zw} (h : x.a.natAbs ≤ 100000 ∧ x.b.natAbs ≤ 100000) : Rg.norm (RR r) x < 100000000000 := by
  have m : ∀ i j : Int, i.natAbs ≤ 100000 → j.natAbs ≤ 100000 → i * j ≤ 10000000000 := fun i j hi hj => by
    have q := Nat.mul_le_mul hi hj
    rw [← Int.natAbs_mul] at q
    omega
  have m1 := m x.a x.a h.1 h.1
  have m2 := m x.a x.b h.1 h.2
  have m3 := m x.b x.b h.2 h.2
  have n3 := Rf.sq_nonneg x.b
  unfold Rg.norm
  rcases RR_ok hR with ⟨e1, e2⟩ | ⟨e1, e2⟩ | ⟨e1, e2⟩ | ⟨e1, e2⟩ | ⟨e1, e2⟩ <;> rw [e1, e2] <;> simp only [Int.zero_mul, Int.one_mul, Int.mul_assoc] <;> omega
theorem pw_step {R : Ring} {m res sq res' sq' t : Zw} {l : Nat} (h : Rf.Same R m (Rg.mul R res (Rg.pow R sq l)) t) (h1 : l % 2 = 1 → Rf.Same R m res' (Rg.mul R res sq)) (h0 : l % 2 ≠ 1 → res' = res) (h2 : Rf.Same R m sq' (Rg.mul R sq sq)) : Rf.Same R m (Rg.mul R res' (Rg.pow R sq' (l / 2))) t := by
  have e1 : Rf.Same R m (Rg.pow R sq' (l / 2)) (Rg.pow R sq (2 * (l / 2))) := by
    rw [← Rf.pow_sq]
    exact Rf.same_pow h2 _
  by_cases k : l % 2 = 1
  · refine (Rf.Same.mul (h1 k) e1).trans ?_
    have e : Rg.mul R (Rg.mul R res sq) (Rg.pow R sq (2 * (l / 2))) = Rg.mul R res (Rg.pow R sq l) := by
      have e2 : Rg.pow R sq l = Rg.mul R sq (Rg.pow R sq (2 * (l / 2))) := by
        have : l = 1 + 2 * (l / 2) := by omega
        rw [show Rg.pow R sq l = Rg.pow R sq (1 + 2 * (l / 2)) from congrArg _ this, Rf.pow_add, Rf.pow_one]
      rw [e2, Rf.mul_assoc]
    rw [e]
    exact h
  · rw [h0 k]
    refine (Rf.Same.mul (Rf.Same.refl ..) e1).trans ?_
    have : 2 * (l / 2) = l := by omega
    rw [this]
    exact h
def preRestPow : List D → D → Prop := fun as d => ∃ (r : Int) (x m : Zw) (n : Nat), as = [.int r, dz x, .int n, dz m] ∧ IsR r ∧ FZ 2000000 x ∧ FZ 60 m ∧ m ≠ Rg.zero ∧ d = dz (Rg.rest (RR r) (Rg.pow (RR r) x n) m)
theorem sc_rest_of_power : FnScope ["r", "x", "n", "m", "result", "square", "left"] ["r", "x", "n", "m"] (defScope s_rest_of_power) := ⟨rfl, rfl, rfl, by decide +kernel, rfl, by decide +kernel, by decide +kernel⟩
theorem ok_rest_of_power (F : FunAt K mg "rest_of_power" s_rest_of_power) (O : CT K mg "ONE" (dz Rg.one)) (Pr : Fx P w K mg base tb "product" 1 3 preProduct) (Re : Fx P w K mg base tb "rest_of" 6 3 preRest) : Fx P w K mg base tb "rest_of_power" 7 4 preRestPow := by
  obtain ⟨f, fd, F, hm⟩ := F
  refine fx_of F hm (F.binds (ps := ["r", "x", "n", "m"]) fun _ _ _ _ _ _ us hl => match us, hl with | [_, _, _, _], _ => rfl) sc_rest_of_power rfl (fun cdv A outer s H E args d hr hn hp => ?_)
  obtain ⟨r, x, m, n, rfl, hR, hx, hm', h0, rfl⟩ := hp
  have hB := BIG_eq
  have hok := RR_ok hR
  have fr : ∀ z : Zw, FZ 130 (Rg.rest (RR r) z m) := fun z => (rest_fit (n := 60) (x := z) hR hm' h0).mono (by omega)
  have f1 : FZ 1 Rg.one := ⟨by decide, by decide⟩
  refine bx_cons (sx_set 4 (Ex.pair (ex_call Re hr (xs_cons (ex_v 0) (xs_cons (ex_ct O) (xs_one (ex_v 3)))) ⟨r, Rg.one, m, rfl, hR, f1.mono (by omega), hm'.mono (by omega), h0, rfl⟩)) sc_rest_of_power.nd) ?_
  refine bx_cons (sx_set 5 (Ex.pair (ex_call Re hr (xs_cons (ex_v 0) (xs_cons (ex_v 1) (xs_one (ex_v 3)))) ⟨r, x, m, rfl, hR, hx, hm'.mono (by omega), h0, rfl⟩)) sc_rest_of_power.nd) ?_
  refine bx_cons (sx_set 6 (ex_v 2) sc_rest_of_power.nd) ?_
  refine bx_cons (sx_while (fun l ss ow => ∃ a b : Zw, (FZ 130 a ∧ FZ 130 b ∧ Rg.rest (RR r) a m = a ∧ Rf.Same (RR r) m (Rg.mul (RR r) a (Rg.pow (RR r) b l)) (Rg.pow (RR r) x n)) ∧ ss = [some (.int r), some (dz x), some (.int n), some (dz m), some (dz a), some (dz b), some (.int l)] ∧ ow = .no)
    (fun ss ow => ∃ b c, ss = [some (.int r), some (dz x), some (.int n), some (dz m), some (dz (Rg.rest (RR r) (Rg.pow (RR r) x n) m)), b, c] ∧ ow = .no)
    PassesOwn.never ?_ (m := n) ⟨Rg.rest (RR r) Rg.one m, Rg.rest (RR r) x m, ⟨fr _, fr _, Rf.rest_rest hok h0, ?_⟩, rfl, rfl⟩ (ss' := [some (.int r), some (dz x), some (.int n), some (dz m), some (dz (Rg.rest (RR r) (Rg.pow (RR r) x n) m)), none, none]) (ow' := .no) ?_) (bx_one (sx_ret (ex_v 4)))
  · rintro l ss ow ⟨a, b, ⟨fa, fb, ha, hab⟩, rfl, rfl⟩
    refine ⟨_, tx_gt (ex_v 6) ex_int, fun h => ?_, fun h => ?_⟩
    · have hl : l = 0 := by
        have : ¬ (0 : Int) < l := by simpa using h
        omega
      subst hl
      have e : a = Rg.rest (RR r) (Rg.pow (RR r) x n) m := Rf.rest_eq hok h0 (by have := hab; rwa [show Rg.pow (RR r) b 0 = Rg.one from rfl, Rf.mul_one] at this) ha
      rw [← e]
      exact ⟨_, _, rfl, rfl⟩
    · have hl : 0 < l := by
        have : (0 : Int) < l := by simpa using h
        omega
      obtain ⟨a', ea⟩ : ∃ a', a' = if l % 2 = 1 then Rg.rest (RR r) (Rg.mul (RR r) a b) m else a := ⟨_, rfl⟩
      have fab := (fa.mul hR fb).mono (show _ ≤ 2000000 by omega)
      have fbb := (fb.mul hR fb).mono (show _ ≤ 2000000 by omega)
      refine ⟨l / 2, [some (.int r), some (dz x), some (.int n), some (dz m), some (dz a'), some (dz (Rg.rest (RR r) (Rg.mul (RR r) b b) m)), some (.int (l / 2 : Nat))], .no, by omega, ⟨a', _, ⟨?_, fr _, ?_, ?_⟩, rfl, rfl⟩, ?_⟩
      · rw [ea]
        split
        · exact fr _
        · exact fa
      · rw [ea]
        split
        · exact Rf.rest_rest hok h0
        · exact ha
      · refine pw_step hab (fun k => ?_) (fun k => ?_) (Rf.same_rest ..)
        · rw [ea, if_pos k]
          exact Rf.same_rest ..
        · rw [ea, if_neg k]
      · refine bx_cons (ss' := [some (.int r), some (dz x), some (.int n), some (dz m), some (dz a'), some (dz b), some (.int l)]) (ow' := .no) (sx_if (tx_eq (ex_mod (ex_v 6) ex_int (by omega)) ex_int) (fun h => ?_) (fun h => ?_)) ?_
        · have k : l % 2 = 1 := by
            have : (l : Int) % 2 = 1 := by simpa using h
            omega
          rw [ea, if_pos k]
          exact bx_one (sx_set 4 (Ex.pair (ex_call Re hr (xs_cons (ex_v 0) (xs_cons (Ex.pair (ex_call (Pr.mono (k := 6) (by decide)) hr (xs_cons (ex_v 0) (xs_cons (ex_v 4) (xs_one (ex_v 5)))) ⟨r, a, b, rfl, hR, fa.mono (by omega), fb.mono (by omega), rfl⟩)) (xs_one (ex_v 3)))) ⟨r, _, m, rfl, hR, fab, hm'.mono (by omega), h0, rfl⟩)) sc_rest_of_power.nd)
        · have k : l % 2 ≠ 1 := by
            have : (l : Int) % 2 ≠ 1 := by simpa using h
            omega
          rw [ea, if_neg k]
          exact bx_nil
        · refine bx_cons (sx_set 5 (Ex.pair (ex_call Re hr (xs_cons (ex_v 0) (xs_cons (Ex.pair (ex_call (Pr.mono (k := 6) (by decide)) hr (xs_cons (ex_v 0) (xs_cons (ex_v 5) (xs_one (ex_v 5)))) ⟨r, b, b, rfl, hR, fb.mono (by omega), fb.mono (by omega), rfl⟩)) (xs_one (ex_v 3)))) ⟨r, _, m, rfl, hR, fbb, hm'.mono (by omega), h0, rfl⟩)) sc_rest_of_power.nd) ?_
          exact bx_one (sx_set 6 (d := .int (l / 2 : Nat)) (Ex.cast (ex_fdiv (ex_v 6) ex_int (by omega) (by decide)) (congrArg D.int (by omega))) sc_rest_of_power.nd)
  · refine (Rf.Same.mul (Rf.same_rest ..) (Rf.same_pow (Rf.same_rest ..) n)).trans ?_
    rw [Rf.one_mul]
    exact Rf.Same.refl ..
  · rintro ss ow ⟨b, c, rfl, rfl⟩
    exact ⟨⟨rfl, rfl, rfl, rfl, rfl, trivial⟩, rfl⟩
theorem pr_is {r : Int} (hR : IsR r) {m x : Zw} {n : Nat} (h0 : m ≠ Rg.zero) (hn : n < 2 ^ 60) : Rg.powRest (RR r) m Rg.BITS x n = Rg.rest (RR r) (Rg.pow (RR r) x n) m :=
  Rf.powRest_is (RR_ok hR) h0 _ x n (Nat.lt_of_lt_of_le hn (Nat.pow_le_pow_right (by decide) (by decide)))
theorem kind_two {r : Int} (hR : IsR r) {x : Zw} (hs : Rg.norm (RR r) x < 100000000000) : Rg.kind (RR r) x = 2 ↔ ((Rg.factors (RR r) x).primes.map fun (f : Zw × Nat) => f.2) = [1] := by
  have h40 : Rg.norm (RR r) x < 2 ^ 40 := by
    have : (2 : Int) ^ 40 = 1099511627776 := by decide
    omega
  unfold Rg.kind
  by_cases x0 : x = Rg.zero
  · rw [if_pos x0, x0, Rf.factors_zero]
    constructor
    · intro z
      cases z
    · intro z
      cases z
  rw [if_neg x0]
  by_cases k : ((Rg.factors (RR r) x).primes.map fun (f : Zw × Nat) => f.2) = [1]
  · have pr := Rf.prime_of_one (RR_ok hR) x0 h40 k
    rw [if_neg (show ¬ Rg.isUnit (RR r) x = true by unfold Rg.isUnit; simpa using pr.2.1), if_pos k]
    exact ⟨fun _ => k, fun _ => rfl⟩
  · constructor
    · intro z
      rw [if_neg k] at z
      split at z <;> omega
    · intro z
      exact absurd z k
def preHas : List D → D → Prop := fun as d => ∃ (r : Int) (x : Zw), as = [.int r, dz x] ∧ IsR r ∧ FZ 60 x ∧ Rg.norm (RR r) x < 100000000000 ∧ x.a.natAbs ≤ 100000 ∧ x.b.natAbs ≤ 100000 ∧ d = .bl (decide (Rg.kind (RR r) x = 2) && decide ((Rg.norm (RR r) x - 1) % (Rg.unitsOf (RR r) : Int) = 0))
theorem sc_has_symbols : FnScope ["r", "p"] ["r", "p"] (defScope s_has_symbols) := ⟨rfl, rfl, rfl, by decide +kernel, rfl, by decide +kernel, by decide +kernel⟩
theorem ok_has_symbols (F : FunAt K mg "has_symbols" s_has_symbols) (U : CT K mg "UNITS_OF_RING" (tabD [4, 2, 6, 2, 2])) (No : Fx P w K mg base tb "norm_of" 1 2 preNorm) (Ip : Fx P w K mg base tb "is_prime" 9 2 preIsPrime) : Fx P w K mg base tb "has_symbols" 10 2 preHas := by
  obtain ⟨f, fd, F, hm⟩ := F
  refine fx_of F hm (F.binds (ps := ["r", "p"]) fun _ _ _ _ _ _ us hl => match us, hl with | [_, _], _ => rfl) sc_has_symbols rfl (fun cdv A outer s H E args d hr hn hp => ?_)
  obtain ⟨r, x, rfl, hR, fx, hs, xa, xb, rfl⟩ := hp
  have hB := BIG_eq
  have hu := uOf_units hR
  obtain ⟨u2, u6⟩ := units_bounds hR
  refine bx_one (sx_ret (Ex.cast (ex_and (ex_call Ip hr (xs_cons (ex_v 0) (xs_one (ex_v 1))) ⟨r, x, rfl, hR, fx, hs, xa, xb, rfl⟩) (fun _ => ex_and1 (ex_eq (ex_mod (ex_sub (ex_call (No.mono (k := 9) (by decide)) hr (xs_cons (ex_v 0) (xs_one (ex_v 1))) ⟨r, x, rfl, hR, fx.mono (by omega), rfl⟩) ex_int) (ex_ixT (ex_ct U) (ex_v 0) (atI_tab D.int hR)) (show 0 < uOf r by omega)) ex_int))) ?_))
  refine congrArg D.bl ?_
  show (_ && decide ((Rg.norm (RR r) x - 1) % uOf r = 0)) = _
  rw [hu, decide_eq_decide.mpr (kind_two hR hs)]
def fitsZ (R : Ring) (y p z : Zw) : Bool := decide (Rg.rest R (Rg.less y z) p = Rg.zero)
def fitF (R : Ring) (y p : Zw) : D → Option D
  | .tup [.int a, .int b] => if fitsZ R y p ⟨a, b⟩ = true then some (.tup [.int a, .int b]) else none
  | _ => none
theorem fitF_list (R : Ring) (y p : Zw) : ∀ l : List Zw, (l.map dz).filterMap (fitF R y p) = (l.filter (fitsZ R y p)).map dz
  | [] => rfl
  | z :: l => by
    have ih := fitF_list R y p l
    by_cases h : fitsZ R y p z = true
    · have e : fitF R y p (dz z) = some (dz z) := if_pos h
      rw [List.map_cons, List.filterMap_cons_some e, List.filter_cons_of_pos h, List.map_cons, ih]
    · have e : fitF R y p (dz z) = none := if_neg h
      rw [List.map_cons, List.filterMap_cons_none e, List.filter_cons_of_neg h, ih]
theorem turns_units (r : Int) : turns r false Rg.one (Rg.unitsOf (RR r)) = (Rg.units (RR r)).map dz := by
  unfold turns Rg.units
  rw [List.map_map]
  refine List.map_congr_left fun k _ => ?_
  show dz (turnZ r Rg.one k) = _
  unfold turnZ
  rw [Rf.one_mul]
  rfl
theorem divides_rest {R : Ring} {p x : Zw} (h : p ≠ Rg.zero) : Rg.divides R p x = decide (Rg.rest R x p = Rg.zero) := by
  unfold Rg.divides
  rw [if_neg h]
  rfl
theorem symbol_head {R : Ring} {x p y u : Zw} {l : List Zw} (h : p ≠ Rg.zero) (h1 : Rg.rest R x p ≠ Rg.zero) (hy : y = Rg.powRest R p Rg.BITS x ((Rg.norm R p - 1) / (Rg.unitsOf R : Int)).toNat) (hl : (Rg.units R).filter (fitsZ R y p) = u :: l) : Rg.symbol R x p = u := by
  unfold Rg.symbol
  rw [divides_rest h, if_neg (by simpa using h1), ← hy]
  have e : (fun (u : Zw) => Rg.divides R p (Rg.less y u)) = fitsZ R y p := funext fun u => divides_rest h
  show ((Rg.units R).find? fun (u : Zw) => Rg.divides R p (Rg.less y u)).getD Rg.zero = u
  rw [e, ← List.head?_filter, hl]
  rfl
def preSymbol : List D → D → Prop := fun as d => ∃ (r : Int) (x p : Zw), as = [.int r, dz x, dz p] ∧ IsR r ∧ FZ 60 x ∧ FZ 60 p ∧ Rf.Pr (RR r) p ∧ Rg.norm (RR r) p < 100000000000 ∧ (Rg.norm (RR r) p - 1) % (Rg.unitsOf (RR r) : Int) = 0 ∧ d = dz (Rg.symbol (RR r) x p)
theorem sc_symbol_of : FnScope ["r", "x", "p", "reached", "fitting", "unit"] ["r", "x", "p"] (defScope s_symbol_of) := ⟨rfl, rfl, rfl, by decide +kernel, rfl, by decide +kernel, by decide +kernel⟩
theorem ok_symbol_of (F : FunAt K mg "symbol_of" s_symbol_of) (c2 : CT K mg "ZERO" (dz Rg.zero)) (c4 : CT K mg "ONE" (dz Rg.one)) (U : CT K mg "UNITS_OF_RING" (tabD [4, 2, 6, 2, 2])) (No : Fx P w K mg base tb "norm_of" 1 2 preNorm) (Mi : Fx P w K mg base tb "minus" 1 2 preMinus) (Tn : Fx P w K mg base tb "turned" 2 2 preTurned) (Re : Fx P w K mg base tb "rest_of" 6 3 preRest) (Rp : Fx P w K mg base tb "rest_of_power" 7 4 preRestPow) :
    Fx P w K mg base tb "symbol_of" 8 3 preSymbol := by
  obtain ⟨f, fd, F, hm⟩ := F
  refine fx_of F hm (F.binds (ps := ["r", "x", "p"]) fun _ _ _ _ _ _ us hl => match us, hl with | [_, _, _], _ => rfl) sc_symbol_of rfl (fun cdv A outer s H E args d hr hn hp => ?_)
  obtain ⟨r, x, p, rfl, hR, fx, fp, pr, hs, he, rfl⟩ := hp
  have hB := BIG_eq
  have hok := RR_ok hR
  have p0 := pr.1
  have np := Rf.norm_pos hok p0
  have hu := uOf_units hR
  obtain ⟨u2, u6⟩ := units_bounds hR
  have f4 : FZ 4000 p := fp.mono (by omega)
  refine bx_if (tx_eqZ (x := Rg.rest (RR r) x p) hr (Ex.pair (ex_call (Re.mono (k := 7) (by decide)) hr (xs_cons (ex_v 0) (xs_cons (ex_v 1) (xs_one (ex_v 2)))) ⟨r, x, p, rfl, hR, fx.mono (by omega), f4, p0, rfl⟩)) (ex_ct c2)) (fun h => bx_one (sx_ret (Ex.cast (ex_ct c2) ?_))) (fun h => ?_)
  · have h1 := of_decide_eq_true h
    unfold Rg.symbol
    rw [divides_rest p0, if_pos (by simpa using h1)]
  have h1 : Rg.rest (RR r) x p ≠ Rg.zero := of_decide_eq_false h
  obtain ⟨n, hn⟩ : ∃ n : Nat, n = ((Rg.norm (RR r) p - 1) / (Rg.unitsOf (RR r) : Int)).toNat := ⟨_, rfl⟩
  have d0 : 0 ≤ (Rg.norm (RR r) p - 1) / (Rg.unitsOf (RR r) : Int) := Int.ediv_nonneg (by omega) (by omega)
  have d1 : (Rg.norm (RR r) p - 1) / (Rg.unitsOf (RR r) : Int) ≤ Rg.norm (RR r) p - 1 := Int.ediv_le_self _ (by omega)
  have en : (Rg.norm (RR r) p - 1) / uOf r = (n : Int) := by
    rw [hu, hn]
    omega
  have n60 : n < 2 ^ 60 := by
    have : (2 : Nat) ^ 60 = 1152921504606846976 := by decide
    omega
  obtain ⟨y, hy⟩ : ∃ y, y = Rg.rest (RR r) (Rg.pow (RR r) x n) p := ⟨_, rfl⟩
  have ey : y = Rg.powRest (RR r) p Rg.BITS x ((Rg.norm (RR r) p - 1) / (Rg.unitsOf (RR r) : Int)).toNat := by
    rw [← hn, pr_is hR p0 n60]
    exact hy
  have fy : FZ 130 y := by
    rw [hy]
    exact rest_fit hR (n := 60) fp p0
  obtain ⟨u, l, hl⟩ : ∃ u l, (Rg.units (RR r)).filter (fitsZ (RR r) y p) = u :: l := by
    obtain ⟨v, v1, v2⟩ := Rf.symbol_exists hok pr he (x := x) (fun z => h1 (by
      have := (Rf.divides_iff hok).mpr z
      rw [divides_rest p0] at this
      exact of_decide_eq_true this))
    rw [← hn] at v2
    have v3 : Rf.Same (RR r) p y v := by
      rw [hy]
      exact (Rf.same_rest ..).trans v2
    have v4 : fitsZ (RR r) y p v = true := by
      have := (Rf.divides_iff hok).mpr v3
      rw [divides_rest p0] at this
      exact this
    cases e : (Rg.units (RR r)).filter (fitsZ (RR r) y p) with
    | nil =>
      have : v ∈ (Rg.units (RR r)).filter (fitsZ (RR r) y p) := List.mem_filter.mpr ⟨(Rf.mem_units hok).mpr v1, v4⟩
      rw [e] at this
      cases this
    | cons u l => exact ⟨u, l, rfl⟩
  rw [symbol_head p0 h1 ey hl]
  refine bx_cons (sx_set 3 (d := dz y) (Ex.cast (ex_call Rp hr (xs_cons (ex_v 0) (xs_cons (ex_v 1) (xs_cons (Ex.cast (ex_fdiv (ex_sub (ex_call (No.mono (k := 7) (by decide)) hr (xs_cons (ex_v 0) (xs_one (ex_v 2))) ⟨r, p, rfl, hR, fp.mono (by omega), rfl⟩) ex_int) (ex_ixT (ex_ct U) (ex_v 0) (atI_tab D.int hR)) (show 0 < uOf r by omega) (Fit.log (m := 4) (by show (uOf r).natAbs < 16; omega) (by omega) (show 0 < uOf r by omega))) (congrArg D.int en)) (xs_one (ex_v 2))))) ⟨r, x, p, n, rfl, hR, fx.mono (by omega), fp, p0, rfl⟩) (by rw [hy])) sc_symbol_of.nd) ?_
  have ul : (Rg.units (RR r)).length = Rg.unitsOf (RR r) := by simp [Rg.units]
  refine bx_cons (sx_setLc 4 5 rfl sc_symbol_of.nd (Ex.cast (ex_call (Tn.mono (k := 7) (by decide)) hr (xs_cons (ex_v 0) (xs_one (ex_ct c4))) ⟨r, false, Rg.one, rfl, hR, fz_one.mono (by omega), rfl⟩) (congrArg D.lst (turns_units r))) (blkOk_by (by rfl)) (fitF (RR r) y p) (by show 5 < 6; omega) (by rw [List.length_map, ul]; omega) (fun d hd => ?_)) ?_
  · obtain ⟨z, hz, rfl⟩ := List.mem_map.mp hd
    have nz : Rg.norm (RR r) z = 1 := (Rf.mem_units hok).mp hz
    have fz1 : FZ 130 z := (fz_of_norm hR (n := 1) (by rw [nz]; decide)).mono (by omega)
    have fl : FZ 2000000 (Rg.less y z) := (fy.less fz1).mono (by omega)
    by_cases k : fitsZ (RR r) y p z = true
    · have e : fitF (RR r) y p (dz z) = some (dz z) := if_pos k
      rw [e]
      rintro X' ⟨s1, H1, C1, cl1, fp1, rfl⟩
      exact ⟨pts_one (Tx.cast (tx_eqZ hr (Ex.pair (ex_call (Re.mono (k := 7) (by decide)) hr (xs_cons (ex_v 0) (xs_cons (Ex.pair (ex_call (Mi.mono (k := 7) (by decide)) hr (xs_cons (ex_v 3) (xs_one (ex_v 5))) ⟨y, z, rfl, rfl⟩)) (xs_one (ex_v 2)))) ⟨r, Rg.less y z, p, rfl, hR, fl, f4, p0, rfl⟩)) (ex_ct c2)) k), ex_v 5⟩
    · have e : fitF (RR r) y p (dz z) = none := if_neg k
      rw [e]
      rintro X' ⟨s1, H1, C1, cl1, fp1, rfl⟩
      exact pts_one (Tx.cast (tx_eqZ hr (Ex.pair (ex_call (Re.mono (k := 7) (by decide)) hr (xs_cons (ex_v 0) (xs_cons (Ex.pair (ex_call (Mi.mono (k := 7) (by decide)) hr (xs_cons (ex_v 3) (xs_one (ex_v 5))) ⟨y, z, rfl, rfl⟩)) (xs_one (ex_v 2)))) ⟨r, Rg.less y z, p, rfl, hR, fl, f4, p0, rfl⟩)) (ex_ct c2)) (by simpa [fitsZ] using k))
  rw [fitF_list, hl]
  exact bx_one (sx_ret (ex_ixL (ds := dz u :: l.map dz) (ex_v 4) ex_int (by show atI _ ((0 : Nat) : Int) = _; exact atI_nat rfl)))
def preTop : List D → D → Prop := fun as d => ∃ r a b e g : Int, as = [.int r, .int a, .int b, .int e, .int g] ∧ Fit 60 r ∧ Fit 60 a ∧ Fit 60 b ∧ Fit 60 e ∧ Fit 60 g ∧ d = .lst ((PyWrring.symbol r a b e g).map D.int)
theorem symbol_large {r : Int} (h : IsR r) {a b e g : Int} (k : Rings.small ⟨e, g⟩ = false) : PyWrring.symbol r a b e g = [-2] := by
  refine (w_in h _).trans ?_
  rw [if_pos k]
  rfl
theorem symbol_no {r : Int} (h : IsR r) {a b e g : Int} (k : Rings.small ⟨e, g⟩ = true) (k2 : Rg.kind (RR r) ⟨e, g⟩ ≠ 2 ∨ (Rg.norm (RR r) ⟨e, g⟩ - 1) % (Rg.unitsOf (RR r) : Int) ≠ 0) : PyWrring.symbol r a b e g = [-1] := by
  refine (w_in h _).trans ?_
  rw [if_neg (by rw [k]; decide), if_pos k2]
  rfl
theorem symbol_in {r : Int} (h : IsR r) {a b e g : Int} (k : Rings.small ⟨e, g⟩ = true) (k2 : ¬ (Rg.kind (RR r) ⟨e, g⟩ ≠ 2 ∨ (Rg.norm (RR r) ⟨e, g⟩ - 1) % (Rg.unitsOf (RR r) : Int) ≠ 0)) : PyWrring.symbol r a b e g = [0, (Rg.symbol (RR r) ⟨a, b⟩ ⟨e, g⟩).a, (Rg.symbol (RR r) ⟨a, b⟩ ⟨e, g⟩).b] := by
  refine (w_in h _).trans ?_
  rw [if_neg (by rw [k]; decide), if_neg k2]
  rfl
theorem sc_symbol : FnScope ["r", "x_a", "x_b", "p_a", "p_b", "p"] ["r", "x_a", "x_b", "p_a", "p_b"] (defScope s_symbol) := ⟨rfl, rfl, rfl, by decide +kernel, rfl, by decide +kernel, by decide +kernel⟩
theorem ok_symbol {f : Addr} {fd : FuncData} (F : Fun K "symbol" "symbol" s_symbol f fd) (c1 : CI mg "NO_SENSE" (-1)) (c3 : CI mg "TOO_LARGE" (-2)) (IR : Fx P w K mg base tb "is_ring" 1 1 preIsRing) (Sm : Fx P w K mg base tb "is_small" 1 1 preSmall) (Tl : Fx P w K mg base tb "told" 1 2 preTold) (Hs : Fx P w K mg base tb "has_symbols" 10 2 preHas)
    (So : Fx P w K mg base tb "symbol_of" 8 3 preSymbol) : FnOk P w K mg base CX0 11 f fd ["r", "x_a", "x_b", "p_a", "p_b"] (spD K tb 5 preTop) := by
  refine fn_D F sc_symbol rfl (fun cdv A outer s H E args d hr hn hp => ?_)
  obtain ⟨r, a, b, e, g, rfl, _, ha, hb, he, hg, rfl⟩ := hp
  refine bx_cons (sx_set 5 (ex_tup (xs_cons (ex_v 3) (xs_one (ex_v 4)))) sc_symbol.nd) ?_
  refine bx_if (tx_not (tx_val (ex_call (IR.mono (k := 10) (by decide)) hr (xs_one (ex_v 0)) ⟨r, rfl, rfl⟩))) (fun h => bx_one (sx_ret (Ex.cast (ex_lst (xs_one (ex_ci c1))) ?_))) (fun h => ?_)
  · have h1 : ¬ IsR r := by simpa using h
    exact congrArg (fun l => D.lst (List.map D.int l)) (w_out h1 _).symm
  have h1 : IsR r := by simpa using h
  refine bx_if (tx_not (tx_val (ex_call (Sm.mono (k := 10) (by decide)) hr (xs_one (ex_v 5)) ⟨⟨e, g⟩, rfl, rfl⟩))) (fun h => bx_one (sx_ret (Ex.cast (ex_lst (xs_one (ex_ci c3))) ?_))) (fun h => ?_)
  · have h2 : Rings.small ⟨e, g⟩ = false := by simpa using h
    rw [symbol_large h1 h2]
    rfl
  have h2 : Rings.small ⟨e, g⟩ = true := by simpa using h
  have fp : FZ 60 ⟨e, g⟩ := ⟨he, hg⟩
  obtain ⟨xa, xb⟩ := small_is h2
  have hs := small_norm h1 ⟨xa, xb⟩
  refine bx_if (tx_not (tx_val (ex_call Hs hr (xs_cons (ex_v 0) (xs_one (ex_v 5))) ⟨r, ⟨e, g⟩, rfl, h1, fp, hs, xa, xb, rfl⟩))) (fun h => bx_one (sx_ret (Ex.cast (ex_lst (xs_one (ex_ci c1))) ?_))) (fun h => ?_)
  · have h3 : Rg.kind (RR r) ⟨e, g⟩ ≠ 2 ∨ (Rg.norm (RR r) ⟨e, g⟩ - 1) % (Rg.unitsOf (RR r) : Int) ≠ 0 := by
      by_cases z : Rg.kind (RR r) ⟨e, g⟩ = 2
      · refine .inr fun y => ?_
        rw [decide_eq_true z, decide_eq_true y] at h
        cases h
      · exact .inl z
    rw [symbol_no h1 h2 h3]
    rfl
  have h3 : Rg.kind (RR r) ⟨e, g⟩ = 2 ∧ (Rg.norm (RR r) ⟨e, g⟩ - 1) % (Rg.unitsOf (RR r) : Int) = 0 := by
    have : (decide (Rg.kind (RR r) ⟨e, g⟩ = 2) && decide ((Rg.norm (RR r) ⟨e, g⟩ - 1) % (Rg.unitsOf (RR r) : Int) = 0)) = true := by simpa using h
    rw [Bool.and_eq_true] at this
    exact ⟨of_decide_eq_true this.1, of_decide_eq_true this.2⟩
  have h40 : Rg.norm (RR r) ⟨e, g⟩ < 2 ^ 40 := by
    have : (2 : Int) ^ 40 = 1099511627776 := by decide
    omega
  have k1 := (kind_two h1 hs).mp h3.1
  have p0 : (⟨e, g⟩ : Zw) ≠ Rg.zero := fun z => by
    rw [z, Rf.factors_zero] at k1
    cases k1
  have pr := Rf.prime_of_one (RR_ok h1) p0 h40 k1
  rw [symbol_in h1 h2 (fun z => z.elim (fun y => y h3.1) fun y => y h3.2)]
  refine bx_one (sx_ret (Ex.cast (ex_call (Tl.mono (k := 10) (by decide)) hr (xs_cons ex_int (xs_one (ex_lst (xs_one (ex_call (So.mono (k := 10) (by decide)) hr (xs_cons (ex_v 0) (xs_cons (ex_tup (xs_cons (ex_v 1) (xs_one (ex_v 2)))) (xs_one (ex_v 5)))) ⟨r, ⟨a, b⟩, ⟨e, g⟩, rfl, h1, ⟨ha, hb⟩, fp, pr, hs, h3.2, rfl⟩))))) ⟨0, [[_, _]], rfl, by simp, rfl⟩) ?_))
  rfl
theorem all_mk {P : Program} {w : World} {K : PySem.W.Frag} {h : Heap} {mg : Str → Option Value} {fa : Addr} (X : K.In h) (G : h.Ns mainGlobals mg) {c Pq : Addr} (ht : PySem.W.tabIn K "quotient" = some (c, Pq)) (hfa : mg "symbol" = some (.ref fa))
    (c_T_OF_RING : CT K mg "T_OF_RING" (tabD [0, 0, 1, 1, 1]))
    (c_C_OF_RING : CT K mg "C_OF_RING" (tabD [1, 2, 1, 2, 3]))
    (c_UNITS_OF_RING : CT K mg "UNITS_OF_RING" (tabD [4, 2, 6, 2, 2]))
    (c_G_OF_RING : CT K mg "G_OF_RING" (.tup [dz ⟨0, 1⟩, dz ⟨-1, 0⟩, dz ⟨0, 1⟩, dz ⟨-1, 0⟩, dz ⟨-1, 0⟩]))
    (c_ZERO : CT K mg "ZERO" (dz Rg.zero))
    (c_ONE : CT K mg "ONE" (dz Rg.one))
    (c_NO_SENSE : CI mg "NO_SENSE" (-1))
    (c_D_OF_RING : CT K mg "D_OF_RING" (tabD [4, 8, 3, 7, 11]))
    (c_TOO_LARGE : CI mg "TOO_LARGE" (-2))
    (c_LARGEST_SMALL_PART : CI mg "LARGEST_SMALL_PART" (100000))
    (n_len : mg "len" = none)
    (n_min : mg "min" = none)
    (n_max : mg "max" = none)
    (n_range : mg "range" = none)
    (n_tuple : mg "tuple" = none)
    (n_sorted : mg "sorted" = none)
    (n_abs : mg "abs" = none)
    (f_told : FunAt K mg "told" s_told)
    (f_is_ring : FunAt K mg "is_ring" s_is_ring)
    (f_product : FunAt K mg "product" s_product)
    (f_mirror_of : FunAt K mg "mirror_of" s_mirror_of)
    (f_norm_of : FunAt K mg "norm_of" s_norm_of)
    (f_minus : FunAt K mg "minus" s_minus)
    (f_left_over : FunAt K mg "left_over" s_left_over)
    (f_nearest_in_row : FunAt K mg "nearest_in_row" s_nearest_in_row)
    (f_quotient : FunAt K mg "quotient" s_quotient)
    (f_turned : FunAt K mg "turned" s_turned)
    (f_unit_of : FunAt K mg "unit_of" s_unit_of)
    (f_form_of : FunAt K mg "form_of" s_form_of)
    (f_turns_to_form : FunAt K mg "turns_to_form" s_turns_to_form)
    (f_common_divisor : FunAt K mg "common_divisor" s_common_divisor)
    (f_rest_of : FunAt K mg "rest_of" s_rest_of)
    (f_whole_root : FunAt K mg "whole_root" s_whole_root)
    (f_forms_of_norm : FunAt K mg "forms_of_norm" s_forms_of_norm)
    (f_whole_primes_of : FunAt K mg "whole_primes_of" s_whole_primes_of)
    (f_primes_over : FunAt K mg "primes_over" s_primes_over)
    (f_take_out : FunAt K mg "take_out" s_take_out)
    (f_primes_of_both : FunAt K mg "primes_of_both" s_primes_of_both)
    (f_factors_of : FunAt K mg "factors_of" s_factors_of)
    (f_is_prime : FunAt K mg "is_prime" s_is_prime)
    (f_is_small : FunAt K mg "is_small" s_is_small)
    (f_rest_of_power : FunAt K mg "rest_of_power" s_rest_of_power)
    (f_has_symbols : FunAt K mg "has_symbols" s_has_symbols)
    (f_symbol_of : FunAt K mg "symbol_of" s_symbol_of)
    (f_symbol : FunAt K mg "symbol" s_symbol) :
    ∃ fd : FuncData, (∀ (s : Shared) (us : List Value), us.length = (["r", "x_a", "x_b", "p_a", "p_b"] : List Str).length → BindsTo s fd ⟨us, []⟩ ((["r", "x_a", "x_b", "p_a", "p_b"] : List Str).zip us)) ∧
      ∀ base : Heap, K.In base → base.Ns mainGlobals mg → LamB mg base c Pq → FnOk P w K mg base CX0 11 fa fd ["r", "x_a", "x_b", "p_a", "p_b"] (spD K (some (qTb Pq)) 5 preTop) := by
  obtain ⟨fq, fdq, Fq, hmq⟩ := f_quotient
  have f_quotient := FunC.of X G Fq hmq ht
  obtain ⟨f, fd, F, hm⟩ := f_symbol
  have e := hfa.symm.trans hm
  cases e
  exact ⟨fd, bindsTo_of F fun _ _ _ _ _ _ us hl => match us, hl with | [_, _, _, _, _], _ => rfl, fun base _ _ LB => ok_symbol F c_NO_SENSE c_TOO_LARGE (ok_is_ring f_is_ring c_T_OF_RING n_len) (ok_is_small f_is_small n_abs c_LARGEST_SMALL_PART) (ok_told f_told) (ok_has_symbols f_has_symbols c_UNITS_OF_RING (ok_norm_of f_norm_of c_T_OF_RING c_C_OF_RING) (ok_is_prime f_is_prime n_len (ok_factors_of f_factors_of n_sorted (ok_norm_of f_norm_of c_T_OF_RING c_C_OF_RING) (ok_whole_primes_of f_whole_primes_of) (ok_primes_of_both f_primes_of_both (ok_common_divisor f_common_divisor c_ONE c_ZERO n_range n_tuple (ok_product f_product c_T_OF_RING c_C_OF_RING) (ok_left_over f_left_over (ok_product f_product c_T_OF_RING c_C_OF_RING) (ok_minus f_minus)) (ok_unit_of f_unit_of c_UNITS_OF_RING c_ONE (ok_turned f_turned n_len c_UNITS_OF_RING c_G_OF_RING (ok_product f_product c_T_OF_RING c_C_OF_RING))) (ok_turns_to_form f_turns_to_form (ok_turned f_turned n_len c_UNITS_OF_RING c_G_OF_RING (ok_product f_product c_T_OF_RING c_C_OF_RING)) (ok_form_of f_form_of n_max (ok_turned f_turned n_len c_UNITS_OF_RING c_G_OF_RING (ok_product f_product c_T_OF_RING c_C_OF_RING)))) (ok_quotient f_quotient LB n_min (ok_product f_product c_T_OF_RING c_C_OF_RING) (ok_mirror_of f_mirror_of c_T_OF_RING) (ok_norm_of f_norm_of c_T_OF_RING c_C_OF_RING) (ok_left_over f_left_over (ok_product f_product c_T_OF_RING c_C_OF_RING) (ok_minus f_minus)) (ok_nearest_in_row f_nearest_in_row c_T_OF_RING))) (ok_norm_of f_norm_of c_T_OF_RING c_C_OF_RING) (ok_primes_over f_primes_over (ok_forms_of_norm f_forms_of_norm c_T_OF_RING c_D_OF_RING n_sorted (ok_whole_root f_whole_root) (ok_form_of f_form_of n_max (ok_turned f_turned n_len c_UNITS_OF_RING c_G_OF_RING (ok_product f_product c_T_OF_RING c_C_OF_RING)))))) (ok_take_out f_take_out c_ZERO (ok_quotient f_quotient LB n_min (ok_product f_product c_T_OF_RING c_C_OF_RING) (ok_mirror_of f_mirror_of c_T_OF_RING) (ok_norm_of f_norm_of c_T_OF_RING c_C_OF_RING) (ok_left_over f_left_over (ok_product f_product c_T_OF_RING c_C_OF_RING) (ok_minus f_minus)) (ok_nearest_in_row f_nearest_in_row c_T_OF_RING)) (ok_rest_of f_rest_of (ok_left_over f_left_over (ok_product f_product c_T_OF_RING c_C_OF_RING) (ok_minus f_minus)) (ok_quotient f_quotient LB n_min (ok_product f_product c_T_OF_RING c_C_OF_RING) (ok_mirror_of f_mirror_of c_T_OF_RING) (ok_norm_of f_norm_of c_T_OF_RING c_C_OF_RING) (ok_left_over f_left_over (ok_product f_product c_T_OF_RING c_C_OF_RING) (ok_minus f_minus)) (ok_nearest_in_row f_nearest_in_row c_T_OF_RING))))))) (ok_symbol_of f_symbol_of c_ZERO c_ONE c_UNITS_OF_RING (ok_norm_of f_norm_of c_T_OF_RING c_C_OF_RING) (ok_minus f_minus) (ok_turned f_turned n_len c_UNITS_OF_RING c_G_OF_RING (ok_product f_product c_T_OF_RING c_C_OF_RING)) (ok_rest_of f_rest_of (ok_left_over f_left_over (ok_product f_product c_T_OF_RING c_C_OF_RING) (ok_minus f_minus)) (ok_quotient f_quotient LB n_min (ok_product f_product c_T_OF_RING c_C_OF_RING) (ok_mirror_of f_mirror_of c_T_OF_RING) (ok_norm_of f_norm_of c_T_OF_RING c_C_OF_RING) (ok_left_over f_left_over (ok_product f_product c_T_OF_RING c_C_OF_RING) (ok_minus f_minus)) (ok_nearest_in_row f_nearest_in_row c_T_OF_RING))) (ok_rest_of_power f_rest_of_power c_ONE (ok_product f_product c_T_OF_RING c_C_OF_RING) (ok_rest_of f_rest_of (ok_left_over f_left_over (ok_product f_product c_T_OF_RING c_C_OF_RING) (ok_minus f_minus)) (ok_quotient f_quotient LB n_min (ok_product f_product c_T_OF_RING c_C_OF_RING) (ok_mirror_of f_mirror_of c_T_OF_RING) (ok_norm_of f_norm_of c_T_OF_RING c_C_OF_RING) (ok_left_over f_left_over (ok_product f_product c_T_OF_RING c_C_OF_RING) (ok_minus f_minus)) (ok_nearest_in_row f_nearest_in_row c_T_OF_RING)))))⟩
end
end Pg
open PySem PySem.W PyProof.Rows
set_option maxRecDepth 100000 in
set_option maxHeartbeats 0 in
theorem PySem.Challenge.cw_ringfive_s17_symbol_holds : PySem.Challenge.rw_ringfive_s17_symbol.Holds := by
  w_on; k_headS; (case hw => exact ⟨[.int 0, .int 0, .int 0, .int 0, .int 0], by decide +kernel, by decide +kernel⟩)
  k_fillS
  refine BS.walkT (r := PySem.Challenge.rw_ringfive_s17_symbol) (k := 11) (CX := L2.CX0) (ps := ["r", "x_a", "x_b", "p_a", "p_b"]) (sp := fun K Pq => BS.spD K (some (Pg.qTb Pq)) 5 Pg.preTop) (x := "quotient") (c := ?cc) (P0 := ?pp) (by decide +kernel) rfl rfl ⟨rfl, by decide, by decide⟩ (fun ⟨z0, z1, z2, z3, z4, _⟩ => ⟨[z0, z1, z2, z3, z4], rfl⟩) (fun w h Y => PySem.W.kIn_of Y) ?R ?T ?L ?F ?S (fun _ _ _ _ z => z)
  case T =>
    intro w
    refine' BS.tab_is ?t1 ?t2 ?t3 ?t4 ?t5
    (case t1 => k_is)
    (case t2 => k_is)
    (case t3 => rfl)
    (case t4 => k_is)
    (case t5 => rfl)
  case L => intro w; rfl
  case R => decide +kernel
  case F =>
    intro w mg fa h Y KX G hmg
    refine' Pg.all_mk KX G ?ht hmg (Pg.ct_5 KX G ?q_T_OF_RING ?l_T_OF_RING)
      (Pg.ct_5 KX G ?q_C_OF_RING ?l_C_OF_RING)
      (Pg.ct_5 KX G ?q_UNITS_OF_RING ?l_UNITS_OF_RING)
      (Pg.ct_g KX G ?q_G ?l_G ?l_G1 ?l_G2 ?l_G3 ?l_G4 ?l_G5)
      (Pg.ct_2 KX G ?q_ZERO ?l_ZERO)
      (Pg.ct_2 KX G ?q_ONE ?l_ONE)
      (Pg.ci_of KX G ?q_NO_SENSE)
      (Pg.ct_5 KX G ?q_D_OF_RING ?l_D_OF_RING)
      (Pg.ci_of KX G ?q_TOO_LARGE)
      (Pg.ci_of KX G ?q_LARGEST_SMALL_PART)
      (PySem.W.mg_none_of KX G ?n_len)
      (PySem.W.mg_none_of KX G ?n_min)
      (PySem.W.mg_none_of KX G ?n_max)
      (PySem.W.mg_none_of KX G ?n_range)
      (PySem.W.mg_none_of KX G ?n_tuple)
      (PySem.W.mg_none_of KX G ?n_sorted)
      (PySem.W.mg_none_of KX G ?n_abs)
      (Pg.fa_of KX G ?a_told ?b_told ?c_told ?d_told)
      (Pg.fa_of KX G ?a_is_ring ?b_is_ring ?c_is_ring ?d_is_ring)
      (Pg.fa_of KX G ?a_product ?b_product ?c_product ?d_product)
      (Pg.fa_of KX G ?a_mirror_of ?b_mirror_of ?c_mirror_of ?d_mirror_of)
      (Pg.fa_of KX G ?a_norm_of ?b_norm_of ?c_norm_of ?d_norm_of)
      (Pg.fa_of KX G ?a_minus ?b_minus ?c_minus ?d_minus)
      (Pg.fa_of KX G ?a_left_over ?b_left_over ?c_left_over ?d_left_over)
      (Pg.fa_of KX G ?a_nearest_in_row ?b_nearest_in_row ?c_nearest_in_row ?d_nearest_in_row)
      (Pg.fa_of KX G ?a_quotient ?b_quotient ?c_quotient ?d_quotient)
      (Pg.fa_of KX G ?a_turned ?b_turned ?c_turned ?d_turned)
      (Pg.fa_of KX G ?a_unit_of ?b_unit_of ?c_unit_of ?d_unit_of)
      (Pg.fa_of KX G ?a_form_of ?b_form_of ?c_form_of ?d_form_of)
      (Pg.fa_of KX G ?a_turns_to_form ?b_turns_to_form ?c_turns_to_form ?d_turns_to_form)
      (Pg.fa_of KX G ?a_common_divisor ?b_common_divisor ?c_common_divisor ?d_common_divisor)
      (Pg.fa_of KX G ?a_rest_of ?b_rest_of ?c_rest_of ?d_rest_of)
      (Pg.fa_of KX G ?a_whole_root ?b_whole_root ?c_whole_root ?d_whole_root)
      (Pg.fa_of KX G ?a_forms_of_norm ?b_forms_of_norm ?c_forms_of_norm ?d_forms_of_norm)
      (Pg.fa_of KX G ?a_whole_primes_of ?b_whole_primes_of ?c_whole_primes_of ?d_whole_primes_of)
      (Pg.fa_of KX G ?a_primes_over ?b_primes_over ?c_primes_over ?d_primes_over)
      (Pg.fa_of KX G ?a_take_out ?b_take_out ?c_take_out ?d_take_out)
      (Pg.fa_of KX G ?a_primes_of_both ?b_primes_of_both ?c_primes_of_both ?d_primes_of_both)
      (Pg.fa_of KX G ?a_factors_of ?b_factors_of ?c_factors_of ?d_factors_of)
      (Pg.fa_of KX G ?a_is_prime ?b_is_prime ?c_is_prime ?d_is_prime)
      (Pg.fa_of KX G ?a_is_small ?b_is_small ?c_is_small ?d_is_small)
      (Pg.fa_of KX G ?a_rest_of_power ?b_rest_of_power ?c_rest_of_power ?d_rest_of_power)
      (Pg.fa_of KX G ?a_has_symbols ?b_has_symbols ?c_has_symbols ?d_has_symbols)
      (Pg.fa_of KX G ?a_symbol_of ?b_symbol_of ?c_symbol_of ?d_symbol_of)
      (Pg.fa_of KX G ?a_symbol ?b_symbol ?c_symbol ?d_symbol)
    (case ht => exact BS.tab_is (by k_is) (by k_is) rfl (by k_is) rfl)
    (case q_T_OF_RING => k_is)
    (case l_T_OF_RING => k_is)
    (case q_C_OF_RING => k_is)
    (case l_C_OF_RING => k_is)
    (case q_UNITS_OF_RING => k_is)
    (case l_UNITS_OF_RING => k_is)
    (case q_G => k_is)
    (case l_G => k_is)
    (case l_G1 => k_is)
    (case l_G2 => k_is)
    (case l_G3 => k_is)
    (case l_G4 => k_is)
    (case l_G5 => k_is)
    (case q_ZERO => k_is)
    (case l_ZERO => k_is)
    (case q_ONE => k_is)
    (case l_ONE => k_is)
    (case q_NO_SENSE => k_is)
    (case q_D_OF_RING => k_is)
    (case l_D_OF_RING => k_is)
    (case q_TOO_LARGE => k_is)
    (case q_LARGEST_SMALL_PART => k_is)
    (case n_len => k_is)
    (case n_min => k_is)
    (case n_max => k_is)
    (case n_range => k_is)
    (case n_tuple => k_is)
    (case n_sorted => k_is)
    (case n_abs => k_is)
    (case a_told => k_is)
    (case b_told => k_is)
    (case c_told => k_is)
    (case d_told => k_is)
    (case a_is_ring => k_is)
    (case b_is_ring => k_is)
    (case c_is_ring => k_is)
    (case d_is_ring => k_is)
    (case a_product => k_is)
    (case b_product => k_is)
    (case c_product => k_is)
    (case d_product => k_is)
    (case a_mirror_of => k_is)
    (case b_mirror_of => k_is)
    (case c_mirror_of => k_is)
    (case d_mirror_of => k_is)
    (case a_norm_of => k_is)
    (case b_norm_of => k_is)
    (case c_norm_of => k_is)
    (case d_norm_of => k_is)
    (case a_minus => k_is)
    (case b_minus => k_is)
    (case c_minus => k_is)
    (case d_minus => k_is)
    (case a_left_over => k_is)
    (case b_left_over => k_is)
    (case c_left_over => k_is)
    (case d_left_over => k_is)
    (case a_nearest_in_row => k_is)
    (case b_nearest_in_row => k_is)
    (case c_nearest_in_row => k_is)
    (case d_nearest_in_row => k_is)
    (case a_quotient => k_is)
    (case b_quotient => k_is)
    (case c_quotient => k_is)
    (case d_quotient => k_is)
    (case a_turned => k_is)
    (case b_turned => k_is)
    (case c_turned => k_is)
    (case d_turned => k_is)
    (case a_unit_of => k_is)
    (case b_unit_of => k_is)
    (case c_unit_of => k_is)
    (case d_unit_of => k_is)
    (case a_form_of => k_is)
    (case b_form_of => k_is)
    (case c_form_of => k_is)
    (case d_form_of => k_is)
    (case a_turns_to_form => k_is)
    (case b_turns_to_form => k_is)
    (case c_turns_to_form => k_is)
    (case d_turns_to_form => k_is)
    (case a_common_divisor => k_is)
    (case b_common_divisor => k_is)
    (case c_common_divisor => k_is)
    (case d_common_divisor => k_is)
    (case a_rest_of => k_is)
    (case b_rest_of => k_is)
    (case c_rest_of => k_is)
    (case d_rest_of => k_is)
    (case a_whole_root => k_is)
    (case b_whole_root => k_is)
    (case c_whole_root => k_is)
    (case d_whole_root => k_is)
    (case a_forms_of_norm => k_is)
    (case b_forms_of_norm => k_is)
    (case c_forms_of_norm => k_is)
    (case d_forms_of_norm => k_is)
    (case a_whole_primes_of => k_is)
    (case b_whole_primes_of => k_is)
    (case c_whole_primes_of => k_is)
    (case d_whole_primes_of => k_is)
    (case a_primes_over => k_is)
    (case b_primes_over => k_is)
    (case c_primes_over => k_is)
    (case d_primes_over => k_is)
    (case a_take_out => k_is)
    (case b_take_out => k_is)
    (case c_take_out => k_is)
    (case d_take_out => k_is)
    (case a_primes_of_both => k_is)
    (case b_primes_of_both => k_is)
    (case c_primes_of_both => k_is)
    (case d_primes_of_both => k_is)
    (case a_factors_of => k_is)
    (case b_factors_of => k_is)
    (case c_factors_of => k_is)
    (case d_factors_of => k_is)
    (case a_is_prime => k_is)
    (case b_is_prime => k_is)
    (case c_is_prime => k_is)
    (case d_is_prime => k_is)
    (case a_is_small => k_is)
    (case b_is_small => k_is)
    (case c_is_small => k_is)
    (case d_is_small => k_is)
    (case a_rest_of_power => k_is)
    (case b_rest_of_power => k_is)
    (case c_rest_of_power => k_is)
    (case d_rest_of_power => k_is)
    (case a_has_symbols => k_is)
    (case b_has_symbols => k_is)
    (case c_has_symbols => k_is)
    (case d_has_symbols => k_is)
    (case a_symbol_of => k_is)
    (case b_symbol_of => k_is)
    (case c_symbol_of => k_is)
    (case d_symbol_of => k_is)
    (case a_symbol => k_is)
    (case b_symbol => k_is)
    (case c_symbol => k_is)
    (case d_symbol => k_is)
  case S =>
    intro K Pq H xs a hO hwi hask hx
    obtain ⟨z0, z1, z2, z3, z4, u⟩ := a
    have e := L2.ints_dw [z0, z1, z2, z3, z4] xs hx
    subst e
    have q : (Codec.inInt (-1000000000000000000) 1000000000000000000 z0 && (Codec.inInt (-1000000000000000000) 1000000000000000000 z1 && (Codec.inInt (-1000000000000000000) 1000000000000000000 z2 && (Codec.inInt (-1000000000000000000) 1000000000000000000 z3 && (Codec.inInt (-1000000000000000000) 1000000000000000000 z4 && true))))) = true := hwi
    simp only [Bool.and_eq_true] at q
    exact ⟨[], [.int z0, .int z1, .int z2, .int z3, .int z4], _, BS.DomOk.nil, .inl hO, BS.Dqs.ints [z0, z1, z2, z3, z4], rfl, ⟨z0, z1, z2, z3, z4, rfl, Pg.fit60 q.1, Pg.fit60 q.2.1, Pg.fit60 q.2.2.1, Pg.fit60 q.2.2.2.1, Pg.fit60 q.2.2.2.2.1, rfl⟩, fun v H' m z => Pg.Dqs.dw z⟩
#print axioms PySem.Challenge.cw_ringfive_s17_symbol_holds
