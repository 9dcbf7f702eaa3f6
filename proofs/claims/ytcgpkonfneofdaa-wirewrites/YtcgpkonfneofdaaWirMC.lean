/-
  Wire: what reading comes to, as mathematics; bytes of strings. Wire: reading one byte. Wire: reading a value. Wire: reading operands, guards, sets.
  Conditions: those that each theorem states.
-/
import Derived.Test.YtcgpkonfneofdaaWirMB
import Derived.Test.YtcgpkonfneofdaaSeqB
import Derived.WalkKit
import Derived.WalkSpells
import Derived.WalkLawsBesides
import Derived.Defers
import Derived.Recover
import Derived.ProofKit
import Derived.Deep.RegionHeld
import Derived.Deep.RegionHeld3
import Derived.Deep.RegionLaw
import Derived.Deep.DeepCutAuto
import Derived.Deep.QuietTactic
import Derived.BigQuiet
import Derived.Maps.AppendAt
import Derived.Laws.BitsAllLaws
import Derived.Laws.Bits64
import Derived.Laws.Strings2
import Derived.Laws.Strings3
import Derived.Laws.Concat
import Derived.Laws.IdiomStrings
import Derived.Laws.BytesString
import Derived.Lib.SliceRun
import Derived.Deep.AppendLies
namespace Go.Proofs.Ytcgpkonfneofdaa
open Go.RowKit

/-- Bytes. -/
def Byt (bs : List Int) : Prop := ∀ b ∈ bs, 0 ≤ b ∧ b < 256
theorem Byt.tail {b : Int} {r : List Int} (h : Byt (b :: r)) : Byt r := fun x hx => h x (List.mem_cons_of_mem _ hx)
theorem Byt.app {a b : List Int} (h : Byt (a ++ b)) : Byt b := fun x hx => h x (List.mem_append_right _ hx)
/-- The bytes of a string. -/
def lst (s : ByteArray) : List Int := s.data.toList.map (fun b => (b.toNat : Int))
theorem lst_byt (s : ByteArray) : Byt (lst s) := by
  intro b hb
  obtain ⟨c, _, rfl⟩ := List.mem_map.1 hb
  have := c.toNat_lt
  omega
theorem lst_len (s : ByteArray) : (lst s).length = s.size := by
  cases s; simp [lst, ByteArray.size]
theorem lst_cons {s : ByteArray} {b : Int} {r : List Int} (h : lst s = b :: r) : ∃ h0 : 0 < s.size, ((s[0]'h0).toNat : Int) = b ∧ lst (s.extract 1 s.size) = r := by
  obtain ⟨⟨l⟩⟩ := s
  cases l with
  | nil => simp [lst] at h
  | cons x l =>
    simp only [lst, List.map_cons, List.cons.injEq] at h
    obtain ⟨h1, h2⟩ := h
    refine ⟨by simp [ByteArray.size], ?_, ?_⟩
    · rw [← h1]; rfl
    · rw [← h2, ByteArray.extract_mk]
      simp [lst, ByteArray.size]
theorem lst_nil {s : ByteArray} : (s.toList == ([] : List UInt8)) = decide (lst s = []) := by
  rw [ByteArray.toList_eq]
  obtain ⟨⟨l⟩⟩ := s
  cases l <;> simp [lst]
theorem lst_inj {s t : ByteArray} (h : lst s = lst t) : s.toList = t.toList := by
  rw [ByteArray.toList_eq, ByteArray.toList_eq]
  have inj : ∀ (a b : List UInt8), a.map (fun b => (b.toNat : Int)) = b.map (fun b => (b.toNat : Int)) → a = b := by
    intro a
    induction a with
    | nil => intro b hb; cases b with
      | nil => rfl
      | cons y b => simp at hb
    | cons x a ih =>
      intro b hb
      cases b with
      | nil => simp at hb
      | cons y b =>
        simp only [List.map_cons, List.cons.injEq] at hb
        have hxy : x = y := UInt8.toNat_inj.1 (by omega)
        rw [hxy, ih b hb.2]
  exact inj _ _ h
theorem lst_eq {s t : ByteArray} (h : lst s = lst t) : s = t := by
  have := lst_inj h
  rw [ByteArray.toList_eq, ByteArray.toList_eq] at this
  obtain ⟨⟨l⟩⟩ := s
  obtain ⟨⟨m⟩⟩ := t
  simp at this
  rw [this]
theorem lst_iff (s t : ByteArray) : (s.toList == t.toList) = decide (lst s = lst t) := by
  by_cases h : lst s = lst t
  · rw [lst_inj h]; simp [h]
  · have : s.toList ≠ t.toList := by
      intro e
      rw [ByteArray.toList_eq, ByteArray.toList_eq] at e
      exact h (by unfold lst; rw [e])
    simp [h, this]
theorem lst_push (s : ByteArray) (n : Int) (h : 0 ≤ n ∧ n < 256) : lst (s.push (UInt8.ofNat n.toNat)) = lst s ++ [n] := by
  obtain ⟨⟨l⟩⟩ := s
  have hn : n.toNat % 256 = n.toNat := Nat.mod_eq_of_lt (by omega)
  have e : ((UInt8.ofNat n.toNat).toNat : Int) = n := by
    simp [hn]
    omega
  simp only [lst, ByteArray.push, List.push_toArray, List.map_append, List.map_cons, List.map_nil, e]
theorem lst_foldl : ∀ (ns : List Int) (s : ByteArray), Byt ns → lst (ns.foldl (fun r n => r.push (UInt8.ofNat n.toNat)) s) = lst s ++ ns
  | [], s, _ => by simp
  | n :: ns, s, h => by
    rw [List.foldl_cons, lst_foldl ns _ (fun x hx => h x (List.mem_cons_of_mem _ hx)), lst_push s n (h n (by simp))]
    simp
theorem lst_mk (l : List UInt8) : lst ⟨l.toArray⟩ = l.map (fun b => (b.toNat : Int)) := rfl
theorem lst_app (s t : ByteArray) : lst (s ++ t) = lst s ++ lst t := by
  obtain ⟨⟨l⟩⟩ := s
  obtain ⟨⟨m⟩⟩ := t
  rw [ByteArray.mk_append_mk]
  simp [lst]
theorem or_u64 {v b : Int} (h0 : 0 ≤ v) (h1 : v < 18446744073709551616) (hm : v % 256 = 0) (hb0 : 0 ≤ b) (hb1 : b < 256) : bits .or .u64 v b = v + b := by
  rw [u64_or v b h0 h1 hb0 (by omega), nat_join 8 v.toNat b.toNat (by omega) (by omega)]
  omega
theorem shl8_u64 {v : Int} (h0 : 0 ≤ v) (h1 : v < 72057594037927936) : IntKind.u64.wrap (v * 2 ^ min (8 : Nat) 64) = v * 256 := by
  simp [IntKind.wrap, IntKind.bits, IntKind.signed]
  omega
theorem or_i64 {x b : Int} (hx : 0 ≤ x) (hx1 : x < 72057594037927936) (hb0 : 0 ≤ b) (hb1 : b < 256) : bits .or .i64 (IntKind.i64.wrap (x * 256)) b = IntKind.i64.wrap (x * 256 + b) := by
  show IntKind.i64.wrap ((BitVec.ofInt 64 (IntKind.i64.wrap (x * 256)) ||| BitVec.ofInt 64 b).toNat : Int) = _
  have e1 : (BitVec.ofInt 64 (IntKind.i64.wrap (x * 256))).toNat = (x * 256).toNat := by
    rw [BitVec.toNat_ofInt]
    simp [IntKind.wrap, IntKind.bits, IntKind.signed]
    omega
  have e2 : (BitVec.ofInt 64 b).toNat = b.toNat := by
    rw [BitVec.toNat_ofInt]
    omega
  rw [BitVec.toNat_or, e1, e2, nat_join 8 _ b.toNat (by omega) (by omega)]
  congr 1
  omega
/-- A whole number of 64 bits. -/
def I64 (n : Int) : Prop := -9223372036854775808 ≤ n ∧ n < 9223372036854775808
def sgn (v : Int) : Int := if v < 9223372036854775808 then v else v - 18446744073709551616
def valN (l : List Int) : Int := l.foldl (fun v b => v * 256 + b) 0
/-- What reading a number, a value, an operand, a guard, a set, a list, a transaction, a plan comes to: nothing, where a byte is missing. -/
def rdN : List Int → Option (Int × List Int)
  | [] => none
  | b :: r => some (b, r)
def rdV (bs : List Int) : Option (Int × List Int) := if bs.length < 8 then none else some (sgn (valN (bs.take 8)), bs.drop 8)
def rdO (bs : List Int) : Option ((Int × Int) × List Int) := (rdN bs).bind fun p => (rdV p.2).map fun q => ((p.1, q.1), q.2)
def rdG (bs : List Int) : Option (Gd × List Int) := (rdN bs).bind fun p => (rdO p.2).bind fun q => (rdO q.2).map fun s => (⟨p.1, q.1.1, q.1.2, s.1.1, s.1.2⟩, s.2)
def rdS (bs : List Int) : Option (St × List Int) := (rdN bs).bind fun p => (rdN p.2).bind fun o => (rdO o.2).bind fun q => (rdO q.2).map fun s => (⟨p.1, o.1, q.1.1, q.1.2, s.1.1, s.1.2⟩, s.2)
def rdK {α : Type} (f : List Int → Option (α × List Int)) : Nat → List Int → Option (List α × List Int)
  | 0, bs => some ([], bs)
  | n + 1, bs => (f bs).bind fun p => (rdK f n p.2).map fun q => (p.1 :: q.1, q.2)
def rdL {α : Type} (f : List Int → Option (α × List Int)) (bs : List Int) : Option (List α × List Int) := (rdN bs).bind fun p => rdK f p.1.toNat p.2
def rdT (bs : List Int) : Option (Core × List Int) := (rdL rdN bs).bind fun p => (rdL rdG p.2).bind fun q => (rdL rdS q.2).map fun s => ((p.1, q.1, s.1), s.2)
def rdP (bs : List Int) : Option ((Int × List Core) × List Int) := (rdN bs).bind fun p => (rdL rdT p.2).map fun q => ((p.1, q.1), q.2)

/-- What one piece says is read back from its bytes. -/
def Back {α : Type} (f : List Int → Option (α × List Int)) (e : α → List Int) (x : α) : Prop := ∀ r, f (e x ++ r) = some (x, r)
/-- What is read are the bytes of it. -/
def Only {α : Type} (f : List Int → Option (α × List Int)) (e : α → List Int) (G : α → Prop) : Prop := ∀ bs x r, Byt bs → f bs = some (x, r) → bs = e x ++ r ∧ G x

theorem valL_valN (n : Int) : valN (valL n) = n % 18446744073709551616 := by
  have h0 : 0 ≤ n % 18446744073709551616 := Int.emod_nonneg _ (by decide)
  have h1 : n % 18446744073709551616 < 18446744073709551616 := Int.emod_lt_of_pos _ (by decide)
  simp only [valN, valL, valB, List.foldl_cons, List.foldl_nil]
  generalize n % 18446744073709551616 = m at *
  simp only [Nat.reduceMul, Int.reducePow]
  omega
theorem valL_byt (n : Int) : Byt (valL n) := by
  intro b hb
  simp only [valL, List.mem_cons, List.not_mem_nil, or_false] at hb
  rcases hb with rfl | rfl | rfl | rfl | rfl | rfl | rfl | rfl <;> exact ⟨Int.emod_nonneg _ (by decide), Int.emod_lt_of_pos _ (by decide)⟩
theorem sgn_mod {n : Int} (h : I64 n) : sgn (n % 18446744073709551616) = n := by
  obtain ⟨h1, h2⟩ := h
  unfold sgn
  split <;> omega
theorem rdV_back {n : Int} (h : I64 n) : Back rdV valL n := by
  intro r
  have e8 : (valL n).length = 8 := rfl
  have hl : ¬ (valL n ++ r).length < 8 := by rw [List.length_append, e8]; omega
  unfold rdV
  rw [if_neg hl, List.take_append_of_le_length (by rw [e8]; exact Nat.le_refl _), List.drop_append_of_le_length (by rw [e8]; exact Nat.le_refl _), List.take_of_length_le (by rw [e8]; exact Nat.le_refl _), List.drop_of_length_le (by rw [e8]; exact Nat.le_refl _), valL_valN, sgn_mod h]
  rfl
theorem valN_valL {a b c d e f g h : Int} (hb : Byt [a, b, c, d, e, f, g, h]) : valL (sgn (valN [a, b, c, d, e, f, g, h])) = [a, b, c, d, e, f, g, h] ∧ I64 (sgn (valN [a, b, c, d, e, f, g, h])) := by
  have ha := hb a (by simp); have hb' := hb b (by simp); have hc := hb c (by simp); have hd := hb d (by simp)
  have he := hb e (by simp); have hf := hb f (by simp); have hg := hb g (by simp); have hh := hb h (by simp)
  have e1 : valN [a, b, c, d, e, f, g, h] = a * 72057594037927936 + b * 281474976710656 + c * 1099511627776 + d * 4294967296 + e * 16777216 + f * 65536 + g * 256 + h := by
    simp only [valN, List.foldl_cons, List.foldl_nil]; omega
  have hs : ∀ v : Int, 0 ≤ v → v < 18446744073709551616 → sgn v % 18446744073709551616 = v ∧ I64 (sgn v) := by
    intro v h0 h1
    unfold sgn I64
    split <;> omega
  obtain ⟨h1, h2⟩ := hs (valN [a, b, c, d, e, f, g, h]) (by omega) (by omega)
  refine ⟨?_, h2⟩
  simp only [valL, valB, h1]
  rw [e1]
  simp only [Nat.reduceMul, Int.reducePow]
  clear h1 h2 e1 hs hb
  congr 1; omega
  congr 1; omega
  congr 1; omega
  congr 1; omega
  congr 1; omega
  congr 1; omega
  congr 1; omega
  congr 1; omega
theorem rdV_only : Only rdV valL I64 := by
  intro bs x r hB h
  unfold rdV at h
  by_cases hl : bs.length < 8
  · rw [if_pos hl] at h; cases h
  · rw [if_neg hl] at h
    injection h with h
    injection h with h1 h2
    match bs, hl with
    | a :: b :: c :: d :: e :: f :: g :: i :: t, _ =>
      simp only [List.take_succ_cons, List.take_zero, List.drop_succ_cons, List.drop_zero] at h1 h2
      have hb8 : Byt [a, b, c, d, e, f, g, i] := fun x hx => hB x (by simp only [List.mem_cons, List.not_mem_nil, or_false] at hx ⊢; rcases hx with h | h | h | h | h | h | h | h <;> simp [h])
      obtain ⟨k1, k2⟩ := valN_valL hb8
      subst h1 h2
      exact ⟨by rw [k1]; rfl, k2⟩
    | [], hl => simp at hl
    | [_], hl => simp at hl
    | [_, _], hl => simp at hl
    | [_, _, _], hl => simp at hl
    | [_, _, _, _], hl => simp at hl
    | [_, _, _, _, _], hl => simp at hl
    | [_, _, _, _, _, _], hl => simp at hl
    | [_, _, _, _, _, _, _], hl => simp at hl

def B1 (n : Int) : Prop := 0 ≤ n ∧ n < 256
theorem B1.mod {n : Int} (h : B1 n) : n % 256 = n := Int.emod_eq_of_lt h.1 h.2
def oB (o : Int × Int) : List Int := opB o.1 o.2
def gB (x : Gd) : List Int := gdB x.k x.ak x.an x.bk x.bn
def sB (x : St) : List Int := stB x.key x.op x.ak x.an x.bk x.bn
def cB (c : Core) : List Int := txB c.1 c.2.1 c.2.2
def OkO (o : Int × Int) : Prop := B1 o.1 ∧ I64 o.2
def OkG (x : Gd) : Prop := B1 x.k ∧ B1 x.ak ∧ I64 x.an ∧ B1 x.bk ∧ I64 x.bn
def OkS (x : St) : Prop := B1 x.key ∧ B1 x.op ∧ B1 x.ak ∧ I64 x.an ∧ B1 x.bk ∧ I64 x.bn
def OkC (c : Core) : Prop := (c.1.length < 256 ∧ ∀ z ∈ c.1, B1 z) ∧ (c.2.1.length < 256 ∧ ∀ z ∈ c.2.1, OkG z) ∧ (c.2.2.length < 256 ∧ ∀ z ∈ c.2.2, OkS z)
theorem rdN_back {n : Int} (h : B1 n) : Back rdN (fun n => [n % 256]) n := by
  intro r
  simp [rdN, h.mod]
theorem rdN_only : Only rdN (fun n => [n % 256]) B1 := by
  intro bs x r hB h
  match bs, h with
  | b :: t, h =>
    injection h with h
    injection h with h1 h2
    subst h1 h2
    have hb : B1 b := hB b (by simp)
    exact ⟨by simp [hb.mod], hb⟩
theorem rdO_back {o : Int × Int} (h : OkO o) : Back rdO oB o := by
  intro r
  have e : oB o ++ r = (o.1 % 256) :: (valL o.2 ++ r) := rfl
  rw [e]
  simp [rdO, rdN, rdV_back h.2 r, h.1.mod]
theorem rdO_only : Only rdO oB OkO := by
  intro bs x r hB h
  match bs, h with
  | b :: t, h =>
    simp only [rdO, rdN, Option.bind_some, Option.map_eq_some_iff] at h
    obtain ⟨⟨v, r'⟩, hv, h⟩ := h
    obtain ⟨e, k⟩ := rdV_only t v r' hB.tail hv
    have hb : B1 b := hB b (by simp)
    injection h with h1 h2
    subst h1 h2
    exact ⟨by rw [e]; simp [oB, opB, hb.mod], hb, k⟩
theorem rdG_back {x : Gd} (h : OkG x) : Back rdG gB x := by
  intro r
  obtain ⟨h1, h2, h3, h4, h5⟩ := h
  have e : gB x ++ r = (x.k % 256) :: (oB (x.ak, x.an) ++ (oB (x.bk, x.bn) ++ r)) := by simp [gB, gdB, oB]
  rw [e]
  simp [rdG, rdN, rdO_back (o := (x.ak, x.an)) ⟨h2, h3⟩ _, rdO_back (o := (x.bk, x.bn)) ⟨h4, h5⟩ _, h1.mod]
theorem rdG_only : Only rdG gB OkG := by
  intro bs x r hB h
  match bs, h with
  | b :: t, h =>
    simp only [rdG, rdN, Option.bind_some, Option.map_eq_some_iff, Option.bind_eq_some_iff] at h
    obtain ⟨⟨o, r1⟩, h1, ⟨p, r2⟩, h2, h⟩ := h
    obtain ⟨e1, k1⟩ := rdO_only t o r1 hB.tail h1
    have hB1 : Byt r1 := by have := hB.tail; rw [e1] at this; exact this.app
    obtain ⟨e2, k2⟩ := rdO_only r1 p r2 hB1 h2
    have hb : B1 b := hB b (by simp)
    injection h with h1 h2
    subst h1 h2
    exact ⟨by rw [e1, e2]; simp [gB, gdB, oB, hb.mod], hb, k1.1, k1.2, k2.1, k2.2⟩
theorem rdS_back {x : St} (h : OkS x) : Back rdS sB x := by
  intro r
  obtain ⟨h0, h1, h2, h3, h4, h5⟩ := h
  have e : sB x ++ r = (x.key % 256) :: (x.op % 256) :: (oB (x.ak, x.an) ++ (oB (x.bk, x.bn) ++ r)) := by simp [sB, stB, oB]
  rw [e]
  simp [rdS, rdN, rdO_back (o := (x.ak, x.an)) ⟨h2, h3⟩ _, rdO_back (o := (x.bk, x.bn)) ⟨h4, h5⟩ _, h0.mod, h1.mod]
theorem rdS_only : Only rdS sB OkS := by
  intro bs x r hB h
  match bs, h with
  | a :: b :: t, h =>
    simp only [rdS, rdN, Option.bind_some, Option.map_eq_some_iff, Option.bind_eq_some_iff] at h
    obtain ⟨⟨o, r1⟩, h1, ⟨p, r2⟩, h2, h⟩ := h
    obtain ⟨e1, k1⟩ := rdO_only t o r1 hB.tail.tail h1
    have hB1 : Byt r1 := by have := hB.tail.tail; rw [e1] at this; exact this.app
    obtain ⟨e2, k2⟩ := rdO_only r1 p r2 hB1 h2
    have ha : B1 a := hB a (by simp)
    have hb : B1 b := hB b (by simp)
    injection h with h1 h2
    subst h1 h2
    exact ⟨by rw [e1, e2]; simp [sB, stB, oB, ha.mod, hb.mod], ha, hb, k1.1, k1.2, k2.1, k2.2⟩
  | [_], h => simp [rdS, rdN] at h
theorem rdK_back {α : Type} {f : List Int → Option (α × List Int)} {e : α → List Int} : ∀ (l : List α), (∀ x ∈ l, Back f e x) → ∀ r, rdK f l.length (l.flatMap e ++ r) = some (l, r)
  | [], _, r => rfl
  | x :: l, h, r => by
    have e1 : (x :: l).flatMap e ++ r = e x ++ (l.flatMap e ++ r) := by simp
    rw [e1]
    have ih := rdK_back l (fun y hy => h y (List.mem_cons_of_mem _ hy)) r
    simp [rdK, h x (by simp) _, ih]
theorem rdK_only {α : Type} {f : List Int → Option (α × List Int)} {e : α → List Int} {G : α → Prop} (hf : Only f e G) : ∀ (n : Nat) bs l r, Byt bs → rdK f n bs = some (l, r) → bs = l.flatMap e ++ r ∧ l.length = n ∧ ∀ x ∈ l, G x
  | 0, bs, l, r, _, h => by
    simp only [rdK] at h
    injection h with h
    injection h with h1 h2
    subst h1 h2
    simp
  | n + 1, bs, l, r, hB, h => by
    simp only [rdK, Option.bind_eq_some_iff, Option.map_eq_some_iff] at h
    obtain ⟨⟨x, r1⟩, h1, ⟨l2, r2⟩, h2, h⟩ := h
    obtain ⟨e1, k1⟩ := hf bs x r1 hB h1
    have hB1 : Byt r1 := by rw [e1] at hB; exact hB.app
    obtain ⟨e2, k2, k3⟩ := rdK_only hf n r1 l2 r2 hB1 h2
    injection h with h1 h2
    subst h1 h2
    refine ⟨by rw [e1, e2]; simp, by simp [k2], fun y hy => ?_⟩
    rcases List.mem_cons.1 hy with rfl | hy
    · exact k1
    · exact k3 y hy
def lB' {α : Type} (e : α → List Int) (l : List α) : List Int := ((l.length : Int) % 256) :: l.flatMap e
theorem rdL_back {α : Type} {f : List Int → Option (α × List Int)} {e : α → List Int} (l : List α) (hl : l.length < 256) (h : ∀ x ∈ l, Back f e x) : Back (rdL f) (lB' e) l := by
  intro r
  have hm : ((l.length : Int) % 256).toNat = l.length := by omega
  simp only [rdL, lB', List.cons_append, rdN, Option.bind_some, hm]
  exact rdK_back l h r
theorem rdL_only {α : Type} {f : List Int → Option (α × List Int)} {e : α → List Int} {G : α → Prop} (hf : Only f e G) : Only (rdL f) (lB' e) (fun l => l.length < 256 ∧ ∀ x ∈ l, G x) := by
  intro bs l r hB h
  match bs, h with
  | b :: t, h =>
    simp only [rdL, rdN, Option.bind_some] at h
    obtain ⟨e1, k1, k2⟩ := rdK_only hf _ t l r hB.tail h
    have hb : B1 b := hB b (by simp)
    have hb1 := hb.1
    have hb2 := hb.2
    have hm : (l.length : Int) % 256 = b := by omega
    exact ⟨by rw [e1]; simp [lB', hm], by omega, k2⟩
theorem zsB_lB (zs : List Int) : zsB zs = lB' (fun n => [n % 256]) zs := by
  simp only [zsB, lB']
  congr 1
  induction zs with
  | nil => rfl
  | cons z zs ih => simp [ih]
theorem cB_eq (c : Core) : cB c = lB' (fun n => [n % 256]) c.1 ++ (lB' gB c.2.1 ++ lB' sB c.2.2) := by
  simp only [cB, txB, zsB_lB, List.append_assoc]
  rfl
theorem rdT_back {c : Core} (h : OkC c) : Back rdT cB c := by
  intro r
  obtain ⟨⟨h1, h2⟩, ⟨h3, h4⟩, h5, h6⟩ := h
  rw [cB_eq, List.append_assoc, List.append_assoc]
  simp [rdT, rdL_back (f := rdN) c.1 h1 (fun x hx => rdN_back (h2 x hx)) _, rdL_back (f := rdG) (e := gB) c.2.1 h3 (fun x hx => rdG_back (h4 x hx)) _, rdL_back (f := rdS) (e := sB) c.2.2 h5 (fun x hx => rdS_back (h6 x hx)) _]
theorem rdT_only : Only rdT cB OkC := by
  intro bs x r hB h
  simp only [rdT, Option.bind_eq_some_iff, Option.map_eq_some_iff] at h
  obtain ⟨⟨a, r1⟩, h1, ⟨b, r2⟩, h2, ⟨c, r3⟩, h3, h⟩ := h
  obtain ⟨e1, k1⟩ := rdL_only rdN_only bs a r1 hB h1
  have hB1 : Byt r1 := by rw [e1] at hB; exact hB.app
  obtain ⟨e2, k2⟩ := rdL_only rdG_only r1 b r2 hB1 h2
  have hB2 : Byt r2 := by rw [e2] at hB1; exact hB1.app
  obtain ⟨e3, k3⟩ := rdL_only rdS_only r2 c r3 hB2 h3
  injection h with h1 h2
  subst h1 h2
  exact ⟨by rw [cB_eq, e1, e2, e3]; simp, k1, k2, k3⟩
def pB (p : Int × List Core) : List Int := (p.1 % 256) :: lB' cB p.2
def OkP (p : Int × List Core) : Prop := B1 p.1 ∧ p.2.length < 256 ∧ ∀ c ∈ p.2, OkC c
theorem rdP_back {p : Int × List Core} (h : OkP p) : Back rdP pB p := by
  intro r
  obtain ⟨h1, h2, h3⟩ := h
  have e : pB p ++ r = (p.1 % 256) :: (lB' cB p.2 ++ r) := rfl
  rw [e]
  simp [rdP, rdN, rdL_back (f := rdT) (e := cB) p.2 h2 (fun x hx => rdT_back (h3 x hx)) _, h1.mod]
theorem rdP_only : Only rdP pB OkP := by
  intro bs x r hB h
  match bs, h with
  | b :: t, h =>
    simp only [rdP, rdN, Option.bind_some, Option.map_eq_some_iff] at h
    obtain ⟨⟨l, r1⟩, h1, h⟩ := h
    obtain ⟨e1, k1, k2⟩ := rdL_only rdT_only t l r1 hB.tail h1
    have hb : B1 b := hB b (by simp)
    injection h with h1 h2
    subst h1 h2
    exact ⟨by rw [e1]; simp [pB, hb.mod], hb, k1, k2⟩

/-- The document's reading: what is not there is 0. -/
def zN (bs : List Int) : Int × List Int := (bs.headD 0, bs.tail)
def zK {α : Type} (f : List Int → α × List Int) : Nat → List Int → List α × List Int
  | 0, bs => ([], bs)
  | n + 1, bs => ((f bs).1 :: (zK f n (f bs).2).1, (zK f n (f bs).2).2)
def zL {α : Type} (f : List Int → α × List Int) (bs : List Int) : List α × List Int := zK f (zN bs).1.toNat (zN bs).2
def zV (bs : List Int) : Int × List Int := (sgn (valN (zK zN 8 bs).1), (zK zN 8 bs).2)
def zO (bs : List Int) : (Int × Int) × List Int := (((zN bs).1, (zV (zN bs).2).1), (zV (zN bs).2).2)
def zG (bs : List Int) : Gd × List Int :=
  let p := zN bs
  let q := zO p.2
  let s := zO q.2
  (⟨p.1, q.1.1, q.1.2, s.1.1, s.1.2⟩, s.2)
def zS (bs : List Int) : St × List Int :=
  let p := zN bs
  let o := zN p.2
  let q := zO o.2
  let s := zO q.2
  (⟨p.1, o.1, q.1.1, q.1.2, s.1.1, s.1.2⟩, s.2)
def zT (bs : List Int) : Core × List Int :=
  let p := zL zN bs
  let q := zL zG p.2
  let s := zL zS q.2
  ((p.1, q.1, s.1), s.2)
def zP (bs : List Int) : (Int × List Core) × List Int := (((zN bs).1, (zL zT (zN bs).2).1), (zL zT (zN bs).2).2)
def ZeroF {α : Type} (f : List Int → Option (α × List Int)) (g : List Int → α × List Int) : Prop := ∀ bs p, f bs = some p → g bs = p
theorem zN_zero : ZeroF rdN zN := by
  intro bs p h
  match bs, h with
  | b :: t, h => injection h
theorem zK_zero {α : Type} {f : List Int → Option (α × List Int)} {g : List Int → α × List Int} (h : ZeroF f g) : ∀ n, ZeroF (rdK f n) (zK g n)
  | 0, bs, p, hp => by injection hp
  | n + 1, bs, p, hp => by
    simp only [rdK, Option.bind_eq_some_iff, Option.map_eq_some_iff] at hp
    obtain ⟨x, h1, q, h2, hp⟩ := hp
    have e1 := h bs x h1
    have e2 := zK_zero h n x.2 q h2
    simp only [zK, e1, e2]
    exact hp
theorem zL_zero {α : Type} {f : List Int → Option (α × List Int)} {g : List Int → α × List Int} (h : ZeroF f g) : ZeroF (rdL f) (zL g) := by
  intro bs p hp
  simp only [rdL, Option.bind_eq_some_iff] at hp
  obtain ⟨x, h1, h2⟩ := hp
  simp only [zL, zN_zero bs x h1]
  exact zK_zero h _ _ _ h2
theorem rdK_take : ∀ (n : Nat) (bs : List Int), n ≤ bs.length → rdK rdN n bs = some (bs.take n, bs.drop n)
  | 0, bs, _ => by simp [rdK]
  | n + 1, b :: t, h => by
    have := rdK_take n t (by simpa using h)
    simp [rdK, rdN, this]
  | n + 1, [], h => by simp at h
theorem zV_zero : ZeroF rdV zV := by
  intro bs p h
  unfold rdV at h
  by_cases hl : bs.length < 8
  · rw [if_pos hl] at h; cases h
  · rw [if_neg hl] at h
    have e := zK_zero zN_zero 8 bs _ (rdK_take 8 bs (by omega))
    simp only [zV, e]
    injection h
theorem zO_zero : ZeroF rdO zO := by
  intro bs p h
  simp only [rdO, Option.bind_eq_some_iff, Option.map_eq_some_iff] at h
  obtain ⟨x, h1, y, h2, rfl⟩ := h
  simp only [zO, zN_zero bs x h1, zV_zero _ y h2]
theorem zG_zero : ZeroF rdG zG := by
  intro bs p h
  simp only [rdG, Option.bind_eq_some_iff, Option.map_eq_some_iff] at h
  obtain ⟨x, h1, y, h2, z, h3, rfl⟩ := h
  simp only [zG, zN_zero bs x h1, zO_zero _ y h2, zO_zero _ z h3]
theorem zS_zero : ZeroF rdS zS := by
  intro bs p h
  simp only [rdS, Option.bind_eq_some_iff, Option.map_eq_some_iff] at h
  obtain ⟨x, h1, o, h0, y, h2, z, h3, rfl⟩ := h
  simp only [zS, zN_zero bs x h1, zN_zero _ o h0, zO_zero _ y h2, zO_zero _ z h3]
theorem zT_zero : ZeroF rdT zT := by
  intro bs p h
  simp only [rdT, Option.bind_eq_some_iff, Option.map_eq_some_iff] at h
  obtain ⟨x, h1, y, h2, z, h3, rfl⟩ := h
  simp only [zT, zL_zero zN_zero bs x h1, zL_zero zG_zero _ y h2, zL_zero zS_zero _ z h3]
theorem zP_zero : ZeroF rdP zP := by
  intro bs p h
  simp only [rdP, Option.bind_eq_some_iff, Option.map_eq_some_iff] at h
  obtain ⟨x, h1, y, h2, rfl⟩ := h
  simp only [zP, zN_zero bs x h1, zL_zero zT_zero _ y h2]
end Go.Proofs.Ytcgpkonfneofdaa

namespace Go.Proofs.Ytcgpkonfneofdaa
open Go.RowKit

theorem hid {p : Prop} (h : p) : Hid p := h
/-- The reader: the bytes that are not read yet. -/
def RdS (P : Nat) (w : World) (bs : List Int) : Prop := ∃ s : ByteArray, w.cell? ⟨P, 0, none⟩ = some (.string s) ∧ w.frozen? ⟨P, 0, none⟩ = false ∧ lst s = bs
theorem RdS.lt {P : Nat} {w : World} {bs : List Int} (h : RdS P w bs) : P < w.heap.size := by
  obtain ⟨s, hc, _, _⟩ := h
  exact World.block_lt_of_cell? w ⟨P, 0, none⟩ hc
theorem RdS.byt {P : Nat} {w : World} {bs : List Int} (h : RdS P w bs) : Byt bs := by
  obtain ⟨s, _, _, rfl⟩ := h
  exact lst_byt s
theorem RdS.kept {P : Nat} {w w' : World} {bs : List Int} {row : Option Nat} (h : RdS P w bs) (hg : w.grownBy w' row) (hr : some P ≠ row) : RdS P w' bs := by
  have hP := h.lt
  obtain ⟨s, hc, hf, hs⟩ := h
  have e := hg.block P hP hr
  exact ⟨s, (World.cell?_of_block (a := ⟨P, 0, none⟩) e).trans hc, (World.frozen?_of_block (a := ⟨P, 0, none⟩) e).trans hf, hs⟩
theorem RdS.below {P : Nat} {w w' : World} {bs : List Int} (h : RdS P w bs) (hb : Below w.heap.size w w') : RdS P w' bs := h.kept (grownBy_of_below hb none) (by simp)
theorem RdS.alloc {P : Nat} {w : World} {bs : List Int} (h : RdS P w bs) (o : Obj) : RdS P (w.alloc o) bs := h.below (grow_alloc (Below.refl _ _) _)
/-- How a reading that wants a byte too many ends. -/
def PanF : Ending := .panicked [{ v := .iface 25 (.int .i64 1), recovered := false }]
/-- How a reading ends: by a panic, where a byte is missing; else with what is read, and the rest is left. -/
def RdR {α : Type} (P : Nat) (w : World) (o : Option (α × List Int)) (V : α → Value → World → Prop) (e : Ending) (w' : World) : Prop :=
  w.grownBy w' (some P) ∧ match o with
    | none => e = PanF
    | some p => ∃ v, e = .returned v ∧ V p.1 v w' ∧ RdS P w' p.2
theorem gb_set (w : World) (P : Nat) (v : Value) : w.grownBy (w.setCell ⟨P, 0, none⟩ v) (some P) := ⟨rfl, rfl, rfl, by simp, fun b _ hb => Below.heap_setCell _ _ _ _ (fun e => hb (by rw [e]))⟩
theorem gb_of_below {P : Nat} {w w' : World} (h : Below w.heap.size w w') : w.grownBy w' (some P) := grownBy_of_below h _
set_option maxRecDepth 100000 in
set_option maxHeartbeats 1000000 in
theorem number_bad (P : Nat) (w : World) (h : RdS P w []) : Calls Try.prog 91 #[.pointer (some ⟨P, 0, none⟩)] w fun e w' => e = PanF ∧ w.grownBy w' (some P) := by
  obtain ⟨s, hc, hf, hs⟩ := h
  have hn : (s.toList == ([] : List UInt8)) = true := by rw [lst_nil, hs]; rfl
  clear hs
  have hn2 : s.toList = [] := by simpa using hn
  go_enter Try.func91, Try.ntmps91
  go_wp2_with fail
  refine (leave_bad [1] 0 1 w.heap.size 1 _ (by simp) (by simp) (by simp) rfl (by decide) (by simp)).mono ?_
  rintro e w' ⟨rfl, rfl⟩
  go_wp2
  exact ⟨rfl, rfl, World.grownBy_alloc _ _ _⟩
set_option maxRecDepth 100000 in
set_option maxHeartbeats 1000000 in
theorem number_ok (P : Nat) (b : Int) (r : List Int) (w : World) (h : RdS P w (b :: r)) : Calls Try.prog 91 #[.pointer (some ⟨P, 0, none⟩)] w fun e w' => e = .returned (.int .i64 b) ∧ RdS P w' r ∧ w.grownBy w' (some P) := by
  obtain ⟨s, hc, hf, hs⟩ := h
  have hn : (s.toList == ([] : List UInt8)) = false := by rw [lst_nil, hs]; rfl
  obtain ⟨h0, hb, hr⟩ := lst_cons hs
  have hi : (0 : Int) < (s.size : Int) := by omega
  have h1 : (1 : Int) ≤ (s.size : Int) := by omega
  have hB : b < 256 ∧ 0 ≤ b := by have := (s[0]'h0).toNat_lt; omega
  have hwr : IntKind.i64.wrap b = b := wrap_i64_small (by omega) (by omega)
  clear hs
  have hn2 : ¬ s.toList = [] := by simpa using hn
  go_enter Try.func91, Try.ntmps91
  go_wp2
  go_ret
  refine ⟨?_, ⟨_, set_here hc, by simpa using hf, hr⟩, gb_set _ _ _⟩
  first | rfl | (rw [hb, hwr])
end Go.Proofs.Ytcgpkonfneofdaa

namespace Go.Proofs.Ytcgpkonfneofdaa
open Go.RowKit

theorem gb_cell {w w' : World} {P b i : Nat} {v : Value} (hg : w.grownBy w' (some P)) (hne : b ≠ P) (hc : w.cell? ⟨b, i, none⟩ = some v) : w'.cell? ⟨b, i, none⟩ = some v := hg.cell hc (fun e => hne (by injection e))
theorem gb_frozen {w w' : World} {P b : Nat} (hg : w.grownBy w' (some P)) (hne : b ≠ P) (hb : b < w.heap.size) (hc : ∀ i, w.frozen? ⟨b, i, none⟩ = false) : ∀ i, w'.frozen? ⟨b, i, none⟩ = false := fun i => (World.frozen?_of_block (a := ⟨b, i, none⟩) (hg.block b hb (fun e => hne (by injection e)))).trans (hc i)
theorem gb_up {w w' w2 : World} {P : Nat} {row : Option Nat} (h : w.grownBy w' (some P)) (h2 : w'.grownBy w2 row) (hr : ∀ j, row = some j → w.heap.size ≤ j) : w.grownBy w2 (some P) :=
  ⟨h2.os.trans h.os, h2.tape.trans h.tape, h2.output.trans h.output, Nat.le_trans h.size h2.size, fun b hb hP => (h2.block b (Nat.lt_of_lt_of_le hb h.size) (fun e => by have := hr b e.symm; omega)).trans (h.block b hb hP)⟩
theorem gb_own {w w' : World} {P R : Nat} (h : w.grownBy w' (some P)) (hR : w.heap.size ≤ R) (i : Nat) (v : Value) : w.grownBy (w'.setCell ⟨R, i, none⟩ v) (some P) :=
  gb_up h (row := some R) ⟨rfl, rfl, rfl, by simp, fun b _ hb => Below.heap_setCell _ _ _ _ (fun e => hb (by rw [e]))⟩ (fun j e => by injection e with e; omega)
theorem RdS.set {P R i : Nat} {w : World} {bs : List Int} {v : Value} (h : RdS P w bs) (hne : R ≠ P) : RdS P (w.setCell ⟨R, i, none⟩ v) bs :=
  h.kept (row := some R) ⟨rfl, rfl, rfl, by simp, fun b _ hb => Below.heap_setCell _ _ _ _ (fun e => hb (by rw [e]))⟩ (fun e => hne (by injection e with e; exact e.symm))
theorem put2 {w : World} {R : Nat} {u0 u1 : Value} (v0 v1 : Value) (t0 : w.cell? ⟨R, 0, none⟩ = some u0) (t1 : w.cell? ⟨R, 1, none⟩ = some u1) : ((w.setCell ⟨R, 0, none⟩ v0).setCell ⟨R, 1, none⟩ v1).cell? ⟨R, 0, none⟩ = some v0 ∧ ((w.setCell ⟨R, 0, none⟩ v0).setCell ⟨R, 1, none⟩ v1).cell? ⟨R, 1, none⟩ = some v1 :=
  ⟨(set_off (by decide) (set_here t0)), (set_here (set_off (by decide) t1))⟩
theorem put3 {w : World} {R : Nat} {u0 u1 u2 : Value} (v0 v1 v2 : Value) (t0 : w.cell? ⟨R, 0, none⟩ = some u0) (t1 : w.cell? ⟨R, 1, none⟩ = some u1) (t2 : w.cell? ⟨R, 2, none⟩ = some u2) : (((w.setCell ⟨R, 0, none⟩ v0).setCell ⟨R, 1, none⟩ v1).setCell ⟨R, 2, none⟩ v2).cell? ⟨R, 0, none⟩ = some v0 ∧ (((w.setCell ⟨R, 0, none⟩ v0).setCell ⟨R, 1, none⟩ v1).setCell ⟨R, 2, none⟩ v2).cell? ⟨R, 1, none⟩ = some v1 ∧ (((w.setCell ⟨R, 0, none⟩ v0).setCell ⟨R, 1, none⟩ v1).setCell ⟨R, 2, none⟩ v2).cell? ⟨R, 2, none⟩ = some v2 :=
  ⟨(set_off (by decide) (set_off (by decide) (set_here t0))), (set_off (by decide) (set_here (set_off (by decide) t1))), (set_here (set_off (by decide) (set_off (by decide) t2)))⟩
theorem put5 {w : World} {R : Nat} {u0 u1 u2 u3 u4 : Value} (v0 v1 v2 v3 v4 : Value) (t0 : w.cell? ⟨R, 0, none⟩ = some u0) (t1 : w.cell? ⟨R, 1, none⟩ = some u1) (t2 : w.cell? ⟨R, 2, none⟩ = some u2) (t3 : w.cell? ⟨R, 3, none⟩ = some u3) (t4 : w.cell? ⟨R, 4, none⟩ = some u4) : (((((w.setCell ⟨R, 0, none⟩ v0).setCell ⟨R, 1, none⟩ v1).setCell ⟨R, 2, none⟩ v2).setCell ⟨R, 3, none⟩ v3).setCell ⟨R, 4, none⟩ v4).cell? ⟨R, 0, none⟩ = some v0 ∧ (((((w.setCell ⟨R, 0, none⟩ v0).setCell ⟨R, 1, none⟩ v1).setCell ⟨R, 2, none⟩ v2).setCell ⟨R, 3, none⟩ v3).setCell ⟨R, 4, none⟩ v4).cell? ⟨R, 1, none⟩ = some v1 ∧ (((((w.setCell ⟨R, 0, none⟩ v0).setCell ⟨R, 1, none⟩ v1).setCell ⟨R, 2, none⟩ v2).setCell ⟨R, 3, none⟩ v3).setCell ⟨R, 4, none⟩ v4).cell? ⟨R, 2, none⟩ = some v2 ∧ (((((w.setCell ⟨R, 0, none⟩ v0).setCell ⟨R, 1, none⟩ v1).setCell ⟨R, 2, none⟩ v2).setCell ⟨R, 3, none⟩ v3).setCell ⟨R, 4, none⟩ v4).cell? ⟨R, 3, none⟩ = some v3 ∧ (((((w.setCell ⟨R, 0, none⟩ v0).setCell ⟨R, 1, none⟩ v1).setCell ⟨R, 2, none⟩ v2).setCell ⟨R, 3, none⟩ v3).setCell ⟨R, 4, none⟩ v4).cell? ⟨R, 4, none⟩ = some v4 :=
  ⟨(set_off (by decide) (set_off (by decide) (set_off (by decide) (set_off (by decide) (set_here t0))))), (set_off (by decide) (set_off (by decide) (set_off (by decide) (set_here (set_off (by decide) t1))))), (set_off (by decide) (set_off (by decide) (set_here (set_off (by decide) (set_off (by decide) t2))))), (set_off (by decide) (set_here (set_off (by decide) (set_off (by decide) (set_off (by decide) t3))))), (set_here (set_off (by decide) (set_off (by decide) (set_off (by decide) (set_off (by decide) t4)))))⟩
theorem put6 {w : World} {R : Nat} {u0 u1 u2 u3 u4 u5 : Value} (v0 v1 v2 v3 v4 v5 : Value) (t0 : w.cell? ⟨R, 0, none⟩ = some u0) (t1 : w.cell? ⟨R, 1, none⟩ = some u1) (t2 : w.cell? ⟨R, 2, none⟩ = some u2) (t3 : w.cell? ⟨R, 3, none⟩ = some u3) (t4 : w.cell? ⟨R, 4, none⟩ = some u4) (t5 : w.cell? ⟨R, 5, none⟩ = some u5) : ((((((w.setCell ⟨R, 0, none⟩ v0).setCell ⟨R, 1, none⟩ v1).setCell ⟨R, 2, none⟩ v2).setCell ⟨R, 3, none⟩ v3).setCell ⟨R, 4, none⟩ v4).setCell ⟨R, 5, none⟩ v5).cell? ⟨R, 0, none⟩ = some v0 ∧ ((((((w.setCell ⟨R, 0, none⟩ v0).setCell ⟨R, 1, none⟩ v1).setCell ⟨R, 2, none⟩ v2).setCell ⟨R, 3, none⟩ v3).setCell ⟨R, 4, none⟩ v4).setCell ⟨R, 5, none⟩ v5).cell? ⟨R, 1, none⟩ = some v1 ∧ ((((((w.setCell ⟨R, 0, none⟩ v0).setCell ⟨R, 1, none⟩ v1).setCell ⟨R, 2, none⟩ v2).setCell ⟨R, 3, none⟩ v3).setCell ⟨R, 4, none⟩ v4).setCell ⟨R, 5, none⟩ v5).cell? ⟨R, 2, none⟩ = some v2 ∧ ((((((w.setCell ⟨R, 0, none⟩ v0).setCell ⟨R, 1, none⟩ v1).setCell ⟨R, 2, none⟩ v2).setCell ⟨R, 3, none⟩ v3).setCell ⟨R, 4, none⟩ v4).setCell ⟨R, 5, none⟩ v5).cell? ⟨R, 3, none⟩ = some v3 ∧ ((((((w.setCell ⟨R, 0, none⟩ v0).setCell ⟨R, 1, none⟩ v1).setCell ⟨R, 2, none⟩ v2).setCell ⟨R, 3, none⟩ v3).setCell ⟨R, 4, none⟩ v4).setCell ⟨R, 5, none⟩ v5).cell? ⟨R, 4, none⟩ = some v4 ∧ ((((((w.setCell ⟨R, 0, none⟩ v0).setCell ⟨R, 1, none⟩ v1).setCell ⟨R, 2, none⟩ v2).setCell ⟨R, 3, none⟩ v3).setCell ⟨R, 4, none⟩ v4).setCell ⟨R, 5, none⟩ v5).cell? ⟨R, 5, none⟩ = some v5 :=
  ⟨(set_off (by decide) (set_off (by decide) (set_off (by decide) (set_off (by decide) (set_off (by decide) (set_here t0)))))), (set_off (by decide) (set_off (by decide) (set_off (by decide) (set_off (by decide) (set_here (set_off (by decide) t1)))))), (set_off (by decide) (set_off (by decide) (set_off (by decide) (set_here (set_off (by decide) (set_off (by decide) t2)))))), (set_off (by decide) (set_off (by decide) (set_here (set_off (by decide) (set_off (by decide) (set_off (by decide) t3)))))), (set_off (by decide) (set_here (set_off (by decide) (set_off (by decide) (set_off (by decide) (set_off (by decide) t4)))))), (set_here (set_off (by decide) (set_off (by decide) (set_off (by decide) (set_off (by decide) (set_off (by decide) t5))))))⟩

theorem valN_snoc (l : List Int) (b : Int) : valN (l ++ [b]) = valN l * 256 + b := by simp [valN, List.foldl_append]
theorem valN_lt_aux : ∀ (n : Nat) (l : List Int), l.length = n → Byt l → 0 ≤ valN l ∧ valN l < 256 ^ l.length
  | 0, l, h, _ => by rw [List.length_eq_zero_iff] at h; subst h; simp [valN]
  | n + 1, l, h, hB => by
    obtain ⟨l', b, rfl⟩ : ∃ l' b, l = l' ++ [b] := by
      have hne : l ≠ [] := by intro e; subst e; simp at h
      exact ⟨l.dropLast, l.getLast hne, (List.dropLast_concat_getLast hne).symm⟩
    have hl := valN_lt_aux n l' (by simpa using h) (fun x hx => hB x (List.mem_append_left _ hx))
    have hb := hB b (by simp)
    rw [valN_snoc, List.length_append, List.length_singleton, Int.pow_succ]
    omega
theorem valN_lt (l : List Int) (h : Byt l) : 0 ≤ valN l ∧ valN l < 256 ^ l.length := valN_lt_aux _ l rfl h
theorem valN_small {l : List Int} (h : Byt l) (hl : l.length ≤ 7) : 0 ≤ valN l ∧ valN l < 72057594037927936 := by
  obtain ⟨h1, h2⟩ := valN_lt l h
  refine ⟨h1, Int.lt_of_lt_of_le h2 ?_⟩
  have : (256 : Int) ^ l.length ≤ 256 ^ 7 := by
    match l.length, hl with
    | 0, _ => decide
    | 1, _ => decide
    | 2, _ => decide
    | 3, _ => decide
    | 4, _ => decide
    | 5, _ => decide
    | 6, _ => decide
    | 7, _ => decide
  simpa using this
theorem sgn_wrap {v : Int} (h0 : 0 ≤ v) (h1 : v < 18446744073709551616) : IntKind.i64.wrap v = sgn v := by
  simp [IntKind.wrap, IntKind.bits, IntKind.signed]
  unfold sgn
  split <;> omega
theorem valN_eight {l : List Int} (h : Byt l) (hl : l.length = 8) : IntKind.i64.wrap (valN l) = sgn (valN l) := by
  obtain ⟨h1, h2⟩ := valN_lt l h
  rw [hl] at h2
  exact sgn_wrap h1 (by simpa using h2)
theorem take_snoc {bs r : List Int} {k : Nat} {b : Int} (h : bs.drop k = b :: r) : bs.take (k + 1) = bs.take k ++ [b] ∧ bs.drop (k + 1) = r ∧ k < bs.length := by
  have hk : k < bs.length := by
    rcases Nat.lt_or_ge k bs.length with h1 | h1
    · exact h1
    · rw [List.drop_of_length_le h1] at h; cases h
  rw [List.drop_eq_getElem_cons hk] at h
  injection h with h1 h2
  exact ⟨by rw [List.take_succ_eq_append_getElem hk, h1], h2, hk⟩
theorem or_next {v b : Int} (h0 : 0 ≤ v) (h1 : v < 72057594037927936) (hb : 0 ≤ b ∧ b < 256) : bits .or .u64 (IntKind.u64.wrap (v * 256)) (IntKind.u64.wrap b) = v * 256 + b := by
  have e1 : IntKind.u64.wrap (v * 256) = v * 256 := by rw [IntKind.wrap_u64]; omega
  have e2 : IntKind.u64.wrap b = b := by rw [IntKind.wrap_u64]; omega
  rw [e1, e2, or_u64 (by omega) (by omega) (by omega) hb.1 hb.2]
set_option maxRecDepth 100000 in
set_option maxHeartbeats 1500000 in
/-- A value: eight bytes, the highest first. -/
theorem rdValue_any (P : Nat) (bs : List Int) (w : World) (h : RdS P w bs) :
    Calls Try.prog 142 #[.pointer (some ⟨P, 0, none⟩)] w fun e w' => RdR P w (rdV bs) (fun n v _ => v = .int .i64 n) e w' := by
  have HB : Hid (Byt bs) := h.byt
  have H0 : Hid (RdS P w bs) := h
  clear h
  go_enter Try.func142, Try.ntmps142
  go_wp2
  go_loopw [3, 4] (fun v i wr => ∃ k : Nat, k ≤ 8 ∧ i = .int .i64 k ∧ v = .int .u64 (valN (bs.take k)) ∧ Hid (k ≤ bs.length) ∧ Hid (RdS P wr (bs.drop k)) ∧ Hid (w.grownBy wr (some P))) (fun _ i _ => 8 - (intOf i).toNat)
  case atStart => exact ⟨0, by omega, rfl, rfl, Nat.zero_le _, by simpa using H0, World.grownBy.refl _ _⟩
  case round =>
    obtain ⟨k, hk, rfl, rfl, hkl, hR, hG⟩ := hrel
    by_cases hlt : k < 8
    · obtain ⟨V, hV⟩ : ∃ V, V = valN (bs.take k) := ⟨_, rfl⟩
      have hVs : 0 ≤ V ∧ V < 72057594037927936 := by rw [hV]; exact valN_small (fun x hx => HB.out x (List.mem_of_mem_take hx)) (by rw [List.length_take]; omega)
      rw [← hV]
      cases hd : bs.drop k with
      | nil =>
        have hR2 : Hid (RdS P wr []) := by have := hR.out; rw [hd] at this; exact this
        have hn : Hid (rdV bs = none) := by
          have hl8 : bs.length < 8 := by have := congrArg List.length hd; simp only [List.length_drop, List.length_nil] at this; omega
          show rdV bs = none
          unfold rdV
          rw [if_pos hl8]
        clear hR hd hV
        go_wp2_with fail
        refine (number_bad P _ hR2.out).mono ?_
        rintro e w1 ⟨rfl, g1⟩
        unfold PanF
        go_wp2
        refine ⟨rfl, hG.out.trans g1, ?_⟩
        rw [hn.out]; rfl
      | cons b r =>
        obtain ⟨e1, e2, hkb⟩ := take_snoc hd
        have hR2 : Hid (RdS P wr (b :: r)) := by have := hR.out; rw [hd] at this; exact this
        have hb := hR2.out.byt b (by simp)
        have HN : Hid (valN (bs.take (k + 1)) = V * 256 + b) := by show _ = _; rw [e1, valN_snoc, hV]
        have HD : Hid (bs.drop (k + 1) = r) := e2
        have HO : Hid (bits .or .u64 (IntKind.u64.wrap (V * 256)) (IntKind.u64.wrap b) = V * 256 + b) := or_next hVs.1 hVs.2 hb
        have HO2 : Hid (bits .or .u64 (V * 256) b = V * 256 + b) := or_u64 (by omega) (by omega) (by omega) hb.1 hb.2
        clear hR hd hV e1 e2
        go_wp2_with fail
        refine (number_ok P b r _ hR2.out).mono ?_
        rintro e w1 ⟨rfl, h1, g1⟩
        have H1 : Hid (RdS P w1 r) := h1
        have G1 : Hid (w.grownBy w1 (some P)) := hG.out.trans g1
        clear h1 g1 hG hR2
        go_wp2
        go_roundw
        case rel => exact ⟨k + 1, by omega, by go_num, by rw [HN.out]; first | exact congrArg _ HO2.out | exact congrArg _ HO.out, hkb, by rw [HD.out]; exact H1, G1⟩
        case measure => simp [intOf]; omega
    · have hk8 : k = 8 := by omega
      subst hk8
      have h8 := hkl.out
      have HE : Hid (IntKind.i64.wrap (valN (bs.take 8)) = sgn (valN (bs.take 8))) := valN_eight (fun x hx => HB.out x (List.mem_of_mem_take hx)) (by rw [List.length_take]; omega)
      have hn : Hid (rdV bs = some (sgn (valN (bs.take 8)), bs.drop 8)) := by
        show rdV bs = _
        unfold rdV
        rw [if_neg (by omega)]
      have he := HE.out
      go_wp2
      go_ret
      refine ⟨hG.out, ?_⟩
      rw [hn.out]
      exact ⟨_, rfl, rfl, hR.out⟩
end Go.Proofs.Ytcgpkonfneofdaa

namespace Go.Proofs.Ytcgpkonfneofdaa
open Go.RowKit

theorem rdNum_any (P : Nat) (bs : List Int) (w : World) (h : RdS P w bs) :
    Calls Try.prog 91 #[.pointer (some ⟨P, 0, none⟩)] w fun e w' => RdR P w (rdN bs) (fun n v _ => v = .int .i64 n) e w' := by
  cases bs with
  | nil => exact (number_bad P w h).mono fun e w' ⟨h1, h2⟩ => ⟨h2, h1⟩
  | cons b r => exact (number_ok P b r w h).mono fun e w' ⟨h1, h2, h3⟩ => ⟨h3, _, h1, rfl, h2⟩
set_option maxRecDepth 100000 in
set_option maxHeartbeats 1500000 in
/-- An operand. -/
theorem rdOperand_any (P : Nat) (bs : List Int) (w : World) (h : RdS P w bs) :
    Calls Try.prog 130 #[.pointer (some ⟨P, 0, none⟩)] w fun e w' => RdR P w (rdO bs) (fun o v _ => v = .agg #[.int .i64 o.1, .int .i64 o.2]) e w' := by
  have hP := h.lt
  obtain ⟨W, hWe⟩ : ∃ W, W = w.alloc (.cells #[.int .i64 0, .int .i64 0] 45) := ⟨_, rfl⟩
  have HWE : Hid (W = w.alloc (.cells #[.int .i64 0, .int .i64 0] 45)) := hWe
  have H0 : Hid (RdS P W bs) := by subst hWe; exact h.alloc _
  have G0 : Hid (w.grownBy W (some P)) := by subst hWe; exact World.grownBy_alloc _ _ _
  have S0 : Hid (w.heap.size < W.heap.size) := by subst hWe; show _ < _; simp
  have c0 : W.cell? ⟨w.heap.size, 0, none⟩ = some (.int .i64 0) := by subst hWe; simp
  have c1 : W.cell? ⟨w.heap.size, 1, none⟩ = some (.int .i64 0) := by subst hWe; simp
  have f0 : ∀ i, W.frozen? ⟨w.heap.size, i, none⟩ = false := by subst hWe; intro i; simp
  have hR : w.heap.size ≠ P := by omega
  clear h hWe
  go_enter Try.func130, Try.ntmps130
  go_upto_region 1 with fail
  rw [← HWE.out]
  go_wp2_with fail
  refine (rdNum_any P bs _ H0.out).mono ?_
  rintro e w1 ⟨g, hm⟩
  cases hc : rdN bs with
  | none =>
    rw [hc] at hm
    have HG : Hid (rdO bs = none) := by
      show rdO bs = none
      simp [rdO, hc]
    subst hm
    unfold PanF
    go_wp2
    refine ⟨rfl, G0.out.trans g, ?_⟩
    rw [HG.out]; rfl
  | some p =>
    obtain ⟨kd, r1⟩ := p
    rw [hc] at hm
    obtain ⟨v, rfl, rfl, h1⟩ := hm
    have HC1 : Hid (rdN bs = some (kd, r1)) := hc
    have H1 : Hid (RdS P w1 r1) := h1
    have G1 : Hid (w.grownBy w1 (some P)) := G0.out.trans g
    have c0 := gb_cell g hR c0
    have c1 := gb_cell g hR c1
    have f0 := gb_frozen g hR S0.out f0
    have S1 : Hid (w.heap.size < w1.heap.size) := Nat.lt_of_lt_of_le S0.out g.size
    clear h1 g hc
    go_wp2_with fail
    refine (rdValue_any P r1 _ H1.out).mono ?_
    rintro e w2 ⟨g, hm⟩
    cases hc : rdV r1 with
    | none =>
      rw [hc] at hm
      have HG : Hid (rdO bs = none) := by
        show rdO bs = none
        simp [rdO, HC1.out, hc]
      subst hm
      unfold PanF
      go_wp2
      refine ⟨rfl, G1.out.trans g, ?_⟩
      rw [HG.out]; rfl
    | some p =>
      obtain ⟨n, r2⟩ := p
      rw [hc] at hm
      obtain ⟨v, rfl, rfl, h1⟩ := hm
      have HC2 : Hid (rdV r1 = some (n, r2)) := hc
      have H2 : Hid (RdS P w2 r2) := h1
      have G2 : Hid (w.grownBy w2 (some P)) := G1.out.trans g
      have c0 := gb_cell g hR c0
      have c1 := gb_cell g hR c1
      have f0 := gb_frozen g hR S1.out f0
      have S2 : Hid (w.heap.size < w2.heap.size) := Nat.lt_of_lt_of_le S1.out g.size
      clear h1 g hc
      have HG : Hid (rdO bs = some ((kd, n), r2)) := by
        show rdO bs = _
        simp [rdO, HC1.out, HC2.out]
      obtain ⟨y0, y1⟩ := put2 (.int .i64 kd) (.int .i64 n) c0 c1
      go_wp2_with fail
      refine bodyPost_ret (v := .agg #[.int .i64 kd, .int .i64 n]) (by simp [results, Try.results130, go_sem, y0, y1]) rfl ⟨(gb_own (gb_own G2.out (Nat.le_refl _) 0 _) (Nat.le_refl _) 1 _), ?_⟩
      rw [HG.out]
      exact ⟨_, rfl, rfl, ((H2.out.set hR).set hR)⟩
set_option maxRecDepth 100000 in
set_option maxHeartbeats 1500000 in
/-- A guard. -/
theorem rdGuard_any (P : Nat) (bs : List Int) (w : World) (h : RdS P w bs) :
    Calls Try.prog 118 #[.pointer (some ⟨P, 0, none⟩)] w fun e w' => RdR P w (rdG bs) (fun x v _ => v = .agg #[.int .i64 x.k, .int .i64 x.ak, .int .i64 x.an, .int .i64 x.bk, .int .i64 x.bn]) e w' := by
  have hP := h.lt
  obtain ⟨W, hWe⟩ : ∃ W, W = w.alloc (.cells #[.int .i64 0, .int .i64 0, .int .i64 0, .int .i64 0, .int .i64 0] 101) := ⟨_, rfl⟩
  have HWE : Hid (W = w.alloc (.cells #[.int .i64 0, .int .i64 0, .int .i64 0, .int .i64 0, .int .i64 0] 101)) := hWe
  have H0 : Hid (RdS P W bs) := by subst hWe; exact h.alloc _
  have G0 : Hid (w.grownBy W (some P)) := by subst hWe; exact World.grownBy_alloc _ _ _
  have S0 : Hid (w.heap.size < W.heap.size) := by subst hWe; show _ < _; simp
  have c0 : W.cell? ⟨w.heap.size, 0, none⟩ = some (.int .i64 0) := by subst hWe; simp
  have c1 : W.cell? ⟨w.heap.size, 1, none⟩ = some (.int .i64 0) := by subst hWe; simp
  have c2 : W.cell? ⟨w.heap.size, 2, none⟩ = some (.int .i64 0) := by subst hWe; simp
  have c3 : W.cell? ⟨w.heap.size, 3, none⟩ = some (.int .i64 0) := by subst hWe; simp
  have c4 : W.cell? ⟨w.heap.size, 4, none⟩ = some (.int .i64 0) := by subst hWe; simp
  have f0 : ∀ i, W.frozen? ⟨w.heap.size, i, none⟩ = false := by subst hWe; intro i; simp
  have hR : w.heap.size ≠ P := by omega
  clear h hWe
  go_enter Try.func118, Try.ntmps118
  go_upto_region 1 with fail
  rw [← HWE.out]
  go_wp2_with fail
  refine (rdNum_any P bs _ H0.out).mono ?_
  rintro e w1 ⟨g, hm⟩
  cases hc : rdN bs with
  | none =>
    rw [hc] at hm
    have HG : Hid (rdG bs = none) := by
      show rdG bs = none
      simp [rdG, hc]
    subst hm
    unfold PanF
    go_wp2
    refine ⟨rfl, G0.out.trans g, ?_⟩
    rw [HG.out]; rfl
  | some p =>
    obtain ⟨kd, r1⟩ := p
    rw [hc] at hm
    obtain ⟨v, rfl, rfl, h1⟩ := hm
    have HC1 : Hid (rdN bs = some (kd, r1)) := hc
    have H1 : Hid (RdS P w1 r1) := h1
    have G1 : Hid (w.grownBy w1 (some P)) := G0.out.trans g
    have c0 := gb_cell g hR c0
    have c1 := gb_cell g hR c1
    have c2 := gb_cell g hR c2
    have c3 := gb_cell g hR c3
    have c4 := gb_cell g hR c4
    have f0 := gb_frozen g hR S0.out f0
    have S1 : Hid (w.heap.size < w1.heap.size) := Nat.lt_of_lt_of_le S0.out g.size
    clear h1 g hc
    go_wp2_with fail
    refine (rdOperand_any P r1 _ H1.out).mono ?_
    rintro e w2 ⟨g, hm⟩
    cases hc : rdO r1 with
    | none =>
      rw [hc] at hm
      have HG : Hid (rdG bs = none) := by
        show rdG bs = none
        simp [rdG, HC1.out, hc]
      subst hm
      unfold PanF
      go_wp2
      refine ⟨rfl, G1.out.trans g, ?_⟩
      rw [HG.out]; rfl
    | some p =>
      obtain ⟨⟨ak, an⟩, r2⟩ := p
      rw [hc] at hm
      obtain ⟨v, rfl, rfl, h1⟩ := hm
      have HC2 : Hid (rdO r1 = some ((ak, an), r2)) := hc
      have H2 : Hid (RdS P w2 r2) := h1
      have G2 : Hid (w.grownBy w2 (some P)) := G1.out.trans g
      have c0 := gb_cell g hR c0
      have c1 := gb_cell g hR c1
      have c2 := gb_cell g hR c2
      have c3 := gb_cell g hR c3
      have c4 := gb_cell g hR c4
      have f0 := gb_frozen g hR S1.out f0
      have S2 : Hid (w.heap.size < w2.heap.size) := Nat.lt_of_lt_of_le S1.out g.size
      clear h1 g hc
      go_wp2_with fail
      refine (rdOperand_any P r2 _ H2.out).mono ?_
      rintro e w3 ⟨g, hm⟩
      cases hc : rdO r2 with
      | none =>
        rw [hc] at hm
        have HG : Hid (rdG bs = none) := by
          show rdG bs = none
          simp [rdG, HC1.out, HC2.out, hc]
        subst hm
        unfold PanF
        go_wp2
        refine ⟨rfl, G2.out.trans g, ?_⟩
        rw [HG.out]; rfl
      | some p =>
        obtain ⟨⟨bk, bn⟩, r3⟩ := p
        rw [hc] at hm
        obtain ⟨v, rfl, rfl, h1⟩ := hm
        have HC3 : Hid (rdO r2 = some ((bk, bn), r3)) := hc
        have H3 : Hid (RdS P w3 r3) := h1
        have G3 : Hid (w.grownBy w3 (some P)) := G2.out.trans g
        have c0 := gb_cell g hR c0
        have c1 := gb_cell g hR c1
        have c2 := gb_cell g hR c2
        have c3 := gb_cell g hR c3
        have c4 := gb_cell g hR c4
        have f0 := gb_frozen g hR S2.out f0
        have S3 : Hid (w.heap.size < w3.heap.size) := Nat.lt_of_lt_of_le S2.out g.size
        clear h1 g hc
        have HG : Hid (rdG bs = some ((⟨kd, ak, an, bk, bn⟩ : Gd), r3)) := by
          show rdG bs = _
          simp [rdG, HC1.out, HC2.out, HC3.out]
        obtain ⟨y0, y1, y2, y3, y4⟩ := put5 (.int .i64 kd) (.int .i64 ak) (.int .i64 an) (.int .i64 bk) (.int .i64 bn) c0 c1 c2 c3 c4
        go_wp2_with fail
        refine bodyPost_ret (v := .agg #[.int .i64 kd, .int .i64 ak, .int .i64 an, .int .i64 bk, .int .i64 bn]) (by simp [results, Try.results118, go_sem, y0, y1, y2, y3, y4]) rfl ⟨(gb_own (gb_own (gb_own (gb_own (gb_own G3.out (Nat.le_refl _) 0 _) (Nat.le_refl _) 1 _) (Nat.le_refl _) 2 _) (Nat.le_refl _) 3 _) (Nat.le_refl _) 4 _), ?_⟩
        rw [HG.out]
        exact ⟨_, rfl, rfl, (((((H3.out.set hR).set hR).set hR).set hR).set hR)⟩
set_option maxRecDepth 100000 in
set_option maxHeartbeats 1500000 in
/-- A set. -/
theorem rdSet_any (P : Nat) (bs : List Int) (w : World) (h : RdS P w bs) :
    Calls Try.prog 120 #[.pointer (some ⟨P, 0, none⟩)] w fun e w' => RdR P w (rdS bs) (fun x v _ => v = .agg #[.int .i64 x.key, .int .i64 x.op, .int .i64 x.ak, .int .i64 x.an, .int .i64 x.bk, .int .i64 x.bn]) e w' := by
  have hP := h.lt
  obtain ⟨W, hWe⟩ : ∃ W, W = w.alloc (.cells #[.int .i64 0, .int .i64 0, .int .i64 0, .int .i64 0, .int .i64 0, .int .i64 0] 47) := ⟨_, rfl⟩
  have HWE : Hid (W = w.alloc (.cells #[.int .i64 0, .int .i64 0, .int .i64 0, .int .i64 0, .int .i64 0, .int .i64 0] 47)) := hWe
  have H0 : Hid (RdS P W bs) := by subst hWe; exact h.alloc _
  have G0 : Hid (w.grownBy W (some P)) := by subst hWe; exact World.grownBy_alloc _ _ _
  have S0 : Hid (w.heap.size < W.heap.size) := by subst hWe; show _ < _; simp
  have c0 : W.cell? ⟨w.heap.size, 0, none⟩ = some (.int .i64 0) := by subst hWe; simp
  have c1 : W.cell? ⟨w.heap.size, 1, none⟩ = some (.int .i64 0) := by subst hWe; simp
  have c2 : W.cell? ⟨w.heap.size, 2, none⟩ = some (.int .i64 0) := by subst hWe; simp
  have c3 : W.cell? ⟨w.heap.size, 3, none⟩ = some (.int .i64 0) := by subst hWe; simp
  have c4 : W.cell? ⟨w.heap.size, 4, none⟩ = some (.int .i64 0) := by subst hWe; simp
  have c5 : W.cell? ⟨w.heap.size, 5, none⟩ = some (.int .i64 0) := by subst hWe; simp
  have f0 : ∀ i, W.frozen? ⟨w.heap.size, i, none⟩ = false := by subst hWe; intro i; simp
  have hR : w.heap.size ≠ P := by omega
  clear h hWe
  go_enter Try.func120, Try.ntmps120
  go_upto_region 1 with fail
  rw [← HWE.out]
  go_wp2_with fail
  refine (rdNum_any P bs _ H0.out).mono ?_
  rintro e w1 ⟨g, hm⟩
  cases hc : rdN bs with
  | none =>
    rw [hc] at hm
    have HG : Hid (rdS bs = none) := by
      show rdS bs = none
      simp [rdS, hc]
    subst hm
    unfold PanF
    go_wp2
    refine ⟨rfl, G0.out.trans g, ?_⟩
    rw [HG.out]; rfl
  | some p =>
    obtain ⟨kd, r1⟩ := p
    rw [hc] at hm
    obtain ⟨v, rfl, rfl, h1⟩ := hm
    have HC1 : Hid (rdN bs = some (kd, r1)) := hc
    have H1 : Hid (RdS P w1 r1) := h1
    have G1 : Hid (w.grownBy w1 (some P)) := G0.out.trans g
    have c0 := gb_cell g hR c0
    have c1 := gb_cell g hR c1
    have c2 := gb_cell g hR c2
    have c3 := gb_cell g hR c3
    have c4 := gb_cell g hR c4
    have c5 := gb_cell g hR c5
    have f0 := gb_frozen g hR S0.out f0
    have S1 : Hid (w.heap.size < w1.heap.size) := Nat.lt_of_lt_of_le S0.out g.size
    clear h1 g hc
    go_wp2_with fail
    refine (rdNum_any P r1 _ H1.out).mono ?_
    rintro e w2 ⟨g, hm⟩
    cases hc : rdN r1 with
    | none =>
      rw [hc] at hm
      have HG : Hid (rdS bs = none) := by
        show rdS bs = none
        simp [rdS, HC1.out, hc]
      subst hm
      unfold PanF
      go_wp2
      refine ⟨rfl, G1.out.trans g, ?_⟩
      rw [HG.out]; rfl
    | some p =>
      obtain ⟨op, r2⟩ := p
      rw [hc] at hm
      obtain ⟨v, rfl, rfl, h1⟩ := hm
      have HC2 : Hid (rdN r1 = some (op, r2)) := hc
      have H2 : Hid (RdS P w2 r2) := h1
      have G2 : Hid (w.grownBy w2 (some P)) := G1.out.trans g
      have c0 := gb_cell g hR c0
      have c1 := gb_cell g hR c1
      have c2 := gb_cell g hR c2
      have c3 := gb_cell g hR c3
      have c4 := gb_cell g hR c4
      have c5 := gb_cell g hR c5
      have f0 := gb_frozen g hR S1.out f0
      have S2 : Hid (w.heap.size < w2.heap.size) := Nat.lt_of_lt_of_le S1.out g.size
      clear h1 g hc
      go_wp2_with fail
      refine (rdOperand_any P r2 _ H2.out).mono ?_
      rintro e w3 ⟨g, hm⟩
      cases hc : rdO r2 with
      | none =>
        rw [hc] at hm
        have HG : Hid (rdS bs = none) := by
          show rdS bs = none
          simp [rdS, HC1.out, HC2.out, hc]
        subst hm
        unfold PanF
        go_wp2
        refine ⟨rfl, G2.out.trans g, ?_⟩
        rw [HG.out]; rfl
      | some p =>
        obtain ⟨⟨ak, an⟩, r3⟩ := p
        rw [hc] at hm
        obtain ⟨v, rfl, rfl, h1⟩ := hm
        have HC3 : Hid (rdO r2 = some ((ak, an), r3)) := hc
        have H3 : Hid (RdS P w3 r3) := h1
        have G3 : Hid (w.grownBy w3 (some P)) := G2.out.trans g
        have c0 := gb_cell g hR c0
        have c1 := gb_cell g hR c1
        have c2 := gb_cell g hR c2
        have c3 := gb_cell g hR c3
        have c4 := gb_cell g hR c4
        have c5 := gb_cell g hR c5
        have f0 := gb_frozen g hR S2.out f0
        have S3 : Hid (w.heap.size < w3.heap.size) := Nat.lt_of_lt_of_le S2.out g.size
        clear h1 g hc
        go_wp2_with fail
        refine (rdOperand_any P r3 _ H3.out).mono ?_
        rintro e w4 ⟨g, hm⟩
        cases hc : rdO r3 with
        | none =>
          rw [hc] at hm
          have HG : Hid (rdS bs = none) := by
            show rdS bs = none
            simp [rdS, HC1.out, HC2.out, HC3.out, hc]
          subst hm
          unfold PanF
          go_wp2
          refine ⟨rfl, G3.out.trans g, ?_⟩
          rw [HG.out]; rfl
        | some p =>
          obtain ⟨⟨bk, bn⟩, r4⟩ := p
          rw [hc] at hm
          obtain ⟨v, rfl, rfl, h1⟩ := hm
          have HC4 : Hid (rdO r3 = some ((bk, bn), r4)) := hc
          have H4 : Hid (RdS P w4 r4) := h1
          have G4 : Hid (w.grownBy w4 (some P)) := G3.out.trans g
          have c0 := gb_cell g hR c0
          have c1 := gb_cell g hR c1
          have c2 := gb_cell g hR c2
          have c3 := gb_cell g hR c3
          have c4 := gb_cell g hR c4
          have c5 := gb_cell g hR c5
          have f0 := gb_frozen g hR S3.out f0
          have S4 : Hid (w.heap.size < w4.heap.size) := Nat.lt_of_lt_of_le S3.out g.size
          clear h1 g hc
          have HG : Hid (rdS bs = some ((⟨kd, op, ak, an, bk, bn⟩ : St), r4)) := by
            show rdS bs = _
            simp [rdS, HC1.out, HC2.out, HC3.out, HC4.out]
          obtain ⟨y0, y1, y2, y3, y4, y5⟩ := put6 (.int .i64 kd) (.int .i64 op) (.int .i64 ak) (.int .i64 an) (.int .i64 bk) (.int .i64 bn) c0 c1 c2 c3 c4 c5
          go_wp2_with fail
          refine bodyPost_ret (v := .agg #[.int .i64 kd, .int .i64 op, .int .i64 ak, .int .i64 an, .int .i64 bk, .int .i64 bn]) (by simp [results, Try.results120, go_sem, y0, y1, y2, y3, y4, y5]) rfl ⟨(gb_own (gb_own (gb_own (gb_own (gb_own (gb_own G4.out (Nat.le_refl _) 0 _) (Nat.le_refl _) 1 _) (Nat.le_refl _) 2 _) (Nat.le_refl _) 3 _) (Nat.le_refl _) 4 _) (Nat.le_refl _) 5 _), ?_⟩
          rw [HG.out]
          exact ⟨_, rfl, rfl, ((((((H4.out.set hR).set hR).set hR).set hR).set hR).set hR)⟩
end Go.Proofs.Ytcgpkonfneofdaa
