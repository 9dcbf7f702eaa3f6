/-
  Transactions in a list, as walks are told of them; and what the document says of stores, said of lists: what one transaction makes of a store, what many make one after the other.
  Conditions: those that each theorem states.
-/
import Derived.Test.YtcgpkonfneofdaaTxnN
import Derived.WalkKit
import Derived.WalkSpells
import Derived.WalkLawsBesides
import Derived.ProofKit
import Derived.OpenShut
import Derived.ChangeOld
import Derived.Deep.Slices
import Derived.Deep.Strs
import Derived.Deep.RegionHeld3
import Derived.BigQuiet
import Derived.Lib.SmallJoins
namespace Go.Proofs.Ytcgpkonfneofdaa
open Go.ChangeShapes Go.WideShapes Go.ChangeAt Go.RowKit Go.Deep

/-- A transaction, and where its three lists lie. -/
structure TxA where
  ra : Option Addr
  ga : Option Addr
  sa : Option Addr
  rc : Nat
  gc : Nat
  sc : Nat
  rs : List Int
  gs : List Gd
  ss : List St
def x0 : TxA := ⟨none, none, none, 0, 0, 0, [], [], []⟩

/-- A transaction that can be read; a list that is nil has no room. -/
structure IsX (w : World) (x : TxA) : Prop where
  t : IsTx w x.ra x.ga x.sa x.rs x.gs x.ss
  rn : x.ra = none → x.rc = 0
  gn : x.ga = none → x.gc = 0
  sn : x.sa = none → x.sc = 0
set_option maxRecDepth 100000 in
theorem IsX.below {w w' : World} {x : TxA} (h : IsX w x) (hb : Below w.heap.size w w') : IsX w' x := ⟨h.t.below hb, h.rn, h.gn, h.sn⟩

/-- A list of transactions that can be read. -/
def IsTxs (w : World) (a : Option Addr) (l : List TxA) : Prop :=
  ∀ i, i < l.length → ∃ b off, a = some ⟨b, off, none⟩ ∧ b < w.heap.size ∧ w.cell? ⟨b, off + i * 3, none⟩ = some (.slice (l.getD i x0).ra (l.getD i x0).rs.length (l.getD i x0).rc) ∧ w.cell? ⟨b, off + i * 3 + 1, none⟩ = some (.slice (l.getD i x0).ga (l.getD i x0).gs.length (l.getD i x0).gc) ∧ w.cell? ⟨b, off + i * 3 + 2, none⟩ = some (.slice (l.getD i x0).sa (l.getD i x0).ss.length (l.getD i x0).sc) ∧ IsX w (l.getD i x0)
set_option maxRecDepth 100000 in
theorem IsTxs.below {w w' : World} {a : Option Addr} {l : List TxA} (h : IsTxs w a l) (hb : Below w.heap.size w w') : IsTxs w' a l := fun i hi => by
  obtain ⟨b, off, ha, hlt, c0, c1, c2, hx⟩ := h i hi
  exact ⟨b, off, ha, Nat.lt_of_lt_of_le hlt hb.size, ext_cell hb c0, ext_cell hb c1, ext_cell hb c2, hx.below hb⟩

/-- Its error; the first error of many. -/
def chkX (x : TxA) : Int := chkTx x.rs x.gs x.ss
def chkL (l : List TxA) : Int := if 8 < l.length then 2 else firstNZ (l.map chkX)

/-- What lies at a key; what is read; what lies there when all is set. -/
def getAt (s : List Int) (k : Int) : Int := s.getD k.toNat 0
def rdOf (s : List Int) (rs : List Int) : List Int := rs.map (getAt s)
def putAll : List Int → List Int → List Int → List Int
  | s, k :: ks, v :: vs => putAll (s.set k.toNat v) ks vs
  | s, _, _ => s

/-- One transaction at a store: done or not, what it reads, what lies there then. -/
def aDone (s : List Int) (x : TxA) : Bool := allG (rdOf s x.rs) x.gs
def aVals (s : List Int) (x : TxA) : List Int := rdOf s x.rs
def aMade (s : List Int) (x : TxA) : List Int := madeOf (rdOf s x.rs) x.gs x.ss
def aEnd (s : List Int) (x : TxA) : List Int := putAll s (keysOf x.ss) (aMade s x)

/-- Many, one after the other. -/
def serEnd : List Int → List TxA → List Int
  | s, [] => s
  | s, x :: t => serEnd (aEnd s x) t
def serRes : List Int → List TxA → List (Bool × List Int)
  | _, [] => []
  | s, x :: t => (aDone s x, aVals s x) :: serRes (aEnd s x) t

set_option maxRecDepth 100000 in
theorem putAll_len : ∀ (ks s vs : List Int), (putAll s ks vs).length = s.length
  | [], s, vs => by cases vs <;> rfl
  | k :: ks, s, [] => rfl
  | k :: ks, s, v :: vs => by rw [putAll, putAll_len ks]; simp
set_option maxRecDepth 100000 in
theorem aEnd_len (s : List Int) (x : TxA) : (aEnd s x).length = s.length := putAll_len _ _ _
set_option maxRecDepth 100000 in
theorem serEnd_len : ∀ (l : List TxA) (s : List Int), (serEnd s l).length = s.length
  | [], _ => rfl
  | x :: t, s => by rw [serEnd, serEnd_len t, aEnd_len]
set_option maxRecDepth 100000 in
theorem serRes_len : ∀ (l : List TxA) (s : List Int), (serRes s l).length = l.length
  | [], _ => rfl
  | x :: t, s => by rw [serRes, List.length_cons, serRes_len t]; rfl
set_option maxRecDepth 100000 in
theorem rdOf_len (s rs : List Int) : (rdOf s rs).length = rs.length := by simp [rdOf]

set_option maxRecDepth 100000 in
theorem serEnd_app : ∀ (l m : List TxA) (s : List Int), serEnd s (l ++ m) = serEnd (serEnd s l) m
  | [], _, _ => rfl
  | x :: t, m, s => by rw [List.cons_append, serEnd, serEnd, serEnd_app t]
set_option maxRecDepth 100000 in
theorem serRes_app : ∀ (l m : List TxA) (s : List Int), serRes s (l ++ m) = serRes s l ++ serRes (serEnd s l) m
  | [], _, _ => rfl
  | x :: t, m, s => by rw [List.cons_append, serRes, serRes, serRes_app t, serEnd]; rfl
set_option maxRecDepth 100000 in
theorem take_x (l : List TxA) (k : Nat) (h : k < l.length) : l.take (k + 1) = l.take k ++ [l.getD k x0] := by
  rw [List.take_succ_eq_append_getElem h]; simp [List.getD, h]
set_option maxRecDepth 100000 in
theorem serEnd_step (s : List Int) (l : List TxA) (k : Nat) (h : k < l.length) : serEnd s (l.take (k + 1)) = aEnd (serEnd s (l.take k)) (l.getD k x0) := by
  rw [take_x l k h, serEnd_app]; rfl
set_option maxRecDepth 100000 in
theorem serRes_step (s : List Int) (l : List TxA) (k : Nat) (h : k < l.length) : serRes s (l.take (k + 1)) = serRes s (l.take k) ++ [(aDone (serEnd s (l.take k)) (l.getD k x0), aVals (serEnd s (l.take k)) (l.getD k x0))] := by
  rw [take_x l k h, serRes_app]; rfl

set_option maxRecDepth 100000 in
theorem putAll_step (s ks vs : List Int) (k : Nat) (h : k < ks.length) (h' : k < vs.length) : putAll (putAll s (ks.take k) (vs.take k)) (ks.drop k) (vs.drop k) = putAll ((putAll s (ks.take k) (vs.take k)).set (ks.getD k 0).toNat (vs.getD k 0)) (ks.drop (k + 1)) (vs.drop (k + 1)) := by
  rw [drop_get ks k 0 h, drop_get vs k 0 h', putAll]
set_option maxRecDepth 100000 in
theorem putAll_take : ∀ (ks s vs : List Int) (k : Nat), k < ks.length → k < vs.length → putAll s (ks.take (k + 1)) (vs.take (k + 1)) = (putAll s (ks.take k) (vs.take k)).set (ks.getD k 0).toNat (vs.getD k 0)
  | a :: ks, s, v :: vs, 0, _, _ => by simp [putAll]
  | a :: ks, s, v :: vs, k + 1, h, h' => by
    simp only [List.take_succ_cons, putAll]
    have := putAll_take ks (s.set a.toNat v) vs k (by simpa using h) (by simpa using h')
    rw [this]
    simp [List.getD]
  | [], _, _, _, h, _ => absurd h (by simp)
  | _ :: _, _, [], _, _, h => absurd h (by simp)

set_option maxRecDepth 100000 in
theorem getD_set_same (l : List Int) (i : Nat) (v : Int) (h : i < l.length) : (l.set i v).getD i 0 = v := by simp [List.getD, h]
set_option maxRecDepth 100000 in
theorem getD_set_ne (l : List Int) (i j : Nat) (v : Int) (h : i ≠ j) : (l.set i v).getD j 0 = l.getD j 0 := by simp [List.getD, List.getElem?_set_ne h]

set_option maxRecDepth 100000 in
theorem putAll_far : ∀ (ks s vs : List Int) (i : Nat), (∀ k ∈ ks, k.toNat ≠ i) → (putAll s ks vs).getD i 0 = s.getD i 0
  | [], s, vs, i, _ => by cases vs <;> rfl
  | k :: ks, s, [], i, _ => rfl
  | k :: ks, s, v :: vs, i, h => by
    rw [putAll, putAll_far ks _ vs i (fun k' hk => h k' (List.mem_cons_of_mem _ hk)), getD_set_ne _ _ _ _ (h k (List.mem_cons_self))]

set_option maxRecDepth 100000 in
/-- Who is not done changes nothing. -/
theorem aEnd_idle (s : List Int) (x : TxA) (h : aDone s x = false) : aEnd s x = s := by
  have hm : aMade s x = [] := by
    have h' : allG (rdOf s x.rs) x.gs = false := h
    show madeOf _ _ _ = []
    unfold madeOf
    rw [h']
    rfl
  unfold aEnd
  rw [hm]
  cases keysOf x.ss <;> rfl
end Go.Proofs.Ytcgpkonfneofdaa
