import Derived.Test.YtfjmgccbpiolhaaGreatDoorM40
import Derived.Maps.Own
import Derived.Maps.OwnSet
import Derived.Maps.Views
import Derived.Sort.KeysCollected
import Derived.Deep.RegionHeld3
import Derived.Maps.AppendAt
import Derived.Deep.AppendLies
namespace Go.Proofs.YtfjmgccbpiolhaaGreatDoor
open Go.RowKit Go.Maps Go.WideMaps
set_option linter.unusedVariables false
set_option linter.unusedSimpArgs false

theorem insD_perm {H : Type} (x : Lit × DataW H) : ∀ l : List (Lit × DataW H), (DataW.insert x l).Perm (x :: l)
  | [] => List.Perm.refl _
  | y :: r => by
    unfold DataW.insert
    split
    · exact List.Perm.refl _
    · exact ((insD_perm x r).cons y).trans (List.Perm.swap x y r)
theorem strKeys_put {H : Type} {D : DataW H} (hD : IsMap D) {k : List UInt8} (h : Maps.has D (.string k) = false) (d : DataW H) : (strKeys (D.put (.string k) d)).Perm (k :: strKeys D) := by
  obtain ⟨es, rfl⟩ := hD
  rw [has_eq, List.any_eq_false] at h
  rw [DataW.put_eq]
  unfold ChangeMaps.putKey
  have e : es.filter (ChangeMaps.notKey (.string k)) = es := by
    rw [List.filter_eq_self]
    intro p hp
    unfold ChangeMaps.notKey
    have := h p hp
    simpa using this
  rw [e]
  exact (insD_perm (Lit.string k, d) es).map fun p => strOf p.1

def insF (f : List UInt8 × VT) : List (List UInt8 × VT) → List (List UInt8 × VT)
  | [] => [f]
  | g :: r => if g.1 < f.1 then g :: insF f r else f :: g :: r
def objS (fs : List (List UInt8 × VT)) : List (List UInt8 × VT) := fs.foldl (fun a f => insF f a) []
def objT (fs : List (List UInt8 × VT)) : VT := .mk 6 .empty .empty ((objS fs).map (·.2)) ((objS fs).map fun f => bT f.1)
theorem insF_perm (f : List UInt8 × VT) : ∀ l, (insF f l).Perm (f :: l)
  | [] => List.Perm.refl _
  | g :: r => by
    unfold insF
    split
    · exact ((insF_perm f r).cons g).trans (List.Perm.swap f g r)
    · exact List.Perm.refl _
theorem foldF_perm : ∀ (fs a : List (List UInt8 × VT)), (fs.foldl (fun a f => insF f a) a).Perm (fs ++ a)
  | [], a => List.Perm.refl _
  | f :: fs, a => by
    rw [List.foldl_cons]
    refine (foldF_perm fs _).trans ?_
    refine ((insF_perm f a).append_left fs).trans ?_
    exact List.perm_middle
theorem objS_perm (fs : List (List UInt8 × VT)) : (objS fs).Perm fs := by
  have := foldF_perm fs []
  rw [List.append_nil] at this
  exact this
def RisF (l : List (List UInt8 × VT)) : Prop := l.Pairwise fun a b => a.1 < b.1
def DisF (l : List (List UInt8 × VT)) : Prop := l.Pairwise fun a b => a.1 ≠ b.1
theorem lt_of_not {a b : List UInt8} (h : ¬ a < b) (hn : a ≠ b) : b < a := by
  refine Decidable.byContradiction fun h2 => hn ?_
  exact List.le_antisymm (List.not_lt.1 h2) (List.not_lt.1 h)
theorem insF_ris (f : List UInt8 × VT) : ∀ l, RisF l → (∀ g ∈ l, g.1 ≠ f.1) → RisF (insF f l)
  | [], _, _ => List.pairwise_singleton _ _
  | g :: r, h, hn => by
    obtain ⟨h1, h2⟩ := List.pairwise_cons.1 h
    unfold insF
    split
    · next hlt =>
      refine List.pairwise_cons.2 ⟨fun x hx => ?_, insF_ris f r h2 (fun y hy => hn y (List.mem_cons_of_mem _ hy))⟩
      rcases List.mem_cons.1 ((insF_perm f r).mem_iff.1 hx) with rfl | hx
      · exact hlt
      · exact h1 x hx
    · next hlt =>
      have hfg := lt_of_not hlt (hn g List.mem_cons_self)
      refine List.pairwise_cons.2 ⟨fun x hx => ?_, h⟩
      rcases List.mem_cons.1 hx with rfl | hx
      · exact hfg
      · exact List.lt_trans hfg (h1 x hx)
theorem objS_ris : ∀ (fs a : List (List UInt8 × VT)), RisF a → DisF (fs ++ a) → RisF (fs.foldl (fun a f => insF f a) a)
  | [], a, h, _ => h
  | f :: fs, a, h, hd => by
    rw [List.foldl_cons]
    rw [List.cons_append] at hd
    obtain ⟨h1, h2⟩ := List.pairwise_cons.1 hd
    refine objS_ris fs _ (insF_ris f a h (fun g hg e => h1 g (List.mem_append_right _ hg) e.symm)) ?_
    have hp : (f :: (fs ++ a)).Perm (fs ++ insF f a) := (List.perm_middle.symm).trans ((insF_perm f a).symm.append_left fs)
    exact hp.pairwise hd (fun e => fun h => e h.symm)
theorem ris_objS {fs : List (List UInt8 × VT)} (hd : DisF fs) : RisF (objS fs) := objS_ris fs [] List.Pairwise.nil (by rw [List.append_nil]; exact hd)
theorem keys_sorted {H : Type} {D : DataW H} {fs : List (List UInt8 × VT)} (hp : (strKeys D).Perm (fs.map (·.1))) (hd : DisF fs) : (strKeys D).mergeSort leB = (objS fs).map (·.1) := by
  rw [mergeSort_of_perm (hp.trans ((objS_perm fs).map (·.1)).symm)]
  refine List.mergeSort_of_pairwise ?_
  rw [List.pairwise_map]
  exact (ris_objS hd).imp (fun h => by simp only [leB, decide_eq_true_eq]; exact List.le_of_lt h)

def heldE (v : Value) : Option (DataW Value × List MemPlace) := some (.held v, [])
structure ObC (mb Bm lo h : Nat) (D : DataW Value) (vof : List UInt8 → Value) (fs : List (List UInt8 × VT)) (w : World) : Prop where
  ml : mb < lo
  bl : Bm < lo
  ne : mb ≠ Bm
  ll : lo ≤ w.heap.size
  box : w.heap[Bm]? = some (.cells #[.map (some mb)] 219 (0, 0))
  own : w.ownsMap Tryz.prog 9 heldE mb fs.length D
  keys : (strKeys D).Perm (fs.map (·.1))
  dis : DisF fs
  att : ∀ f ∈ fs, ∀ z, D.atKey (.string f.1) z = .held (vof f.1)
  has : ∀ k, Maps.has D (.string k) = fs.any (fun f => f.1 == k)
  trees : ∀ f ∈ fs, InF lo w (h + 1) f.2 (vof f.1)
theorem ObC.keep {mb Bm lo h : Nat} {D : DataW Value} {vof : List UInt8 → Value} {fs : List (List UInt8 × VT)} {w w' : World} (o : ObC mb Bm lo h D vof fs w) (hz : w.heap.size ≤ w'.heap.size) (hm : w'.heap[mb]? = w.heap[mb]?) (hB : w'.heap[Bm]? = w.heap[Bm]?) (hs : ∀ b, lo ≤ b → b < w.heap.size → w'.heap[b]? = w.heap[b]?) : ObC mb Bm lo h D vof fs w' := by
  have h2 := o.ll
  refine ⟨o.ml, o.bl, o.ne, by omega, hB.trans o.box, ?_, o.keys, o.dis, o.att, o.has, fun f hf => InD.iff.1 (InD.keep hz (fun b hb hl => hs b hb hl) (fun b hb _ => hb) (InD.iff.2 (o.trees f hf)))⟩
  obtain ⟨es, clock, hb, rest⟩ := o.own
  exact ⟨es, clock, hm.trans hb, rest⟩
theorem ObC.but {I mb Bm lo h : Nat} {D : DataW Value} {vof : List UInt8 → Value} {fs : List (List UInt8 × VT)} {w w' : World} (o : ObC mb Bm lo h D vof fs w) (h1 : I ≠ mb) (h2 : I ≠ Bm) (h3 : I < lo) (hb : But I w w') : ObC mb Bm lo h D vof fs w' := by
  have a1 := o.ml
  have a2 := o.bl
  have a3 := o.ll
  exact o.keep hb.size (hb.block _ (by omega) (fun e => h1 e.symm)) (hb.block _ (by omega) (fun e => h2 e.symm)) (fun b g1 g2 => hb.block b g2 (by omega))
theorem ObC.low {mb Bm lo h : Nat} {D : DataW Value} {vof : List UInt8 → Value} {fs : List (List UInt8 × VT)} {w w' : World} (o : ObC mb Bm lo h D vof fs w) (hb : Below w.heap.size w w') : ObC mb Bm lo h D vof fs w' := by
  have a1 := o.ml
  have a2 := o.bl
  have a3 := o.ll
  exact o.keep hb.size (hb.block _ (by omega)) (hb.block _ (by omega)) (fun b g1 g2 => hb.block b g2)
theorem ObC.put {mb Bm lo h : Nat} {D : DataW Value} {vof : List UInt8 → Value} {fs : List (List UInt8 × VT)} {w w' : World} {k : List UInt8} {T : VT} {v : Value} (o : ObC mb Bm lo h D vof fs w) (hk : fs.any (fun f => f.1 == k) = false) (hT : InF lo w (h + 1) T v)
    (hown : w'.ownsMap Tryz.prog 9 heldE mb (fs.length + 1) (D.put (.string k) (.held v))) (hg : w.grownBy w' (some mb)) : ObC mb Bm lo h (D.put (.string k) (.held v)) (fun x => if x = k then v else vof x) (fs ++ [(k, T)]) w' := by
  have a1 := o.ml
  have a2 := o.bl
  have a3 := o.ll
  have a4 := o.ne
  have a5 := hg.size
  have hM : IsMap D := World.ownsMap.isMap o.own
  have hkk : ∀ f ∈ fs, f.1 ≠ k := fun f hf e => by
    rw [List.any_eq_false] at hk
    exact hk f hf (by rw [e]; exact beq_self_eq_true k)
  have hkey : WideAt.IsKeyLit (.string k) := by first | exact ⟨k, rfl⟩ | trivial | (unfold WideAt.IsKeyLit; simp)
  have blk : ∀ b, b < w.heap.size → b ≠ mb → w'.heap[b]? = w.heap[b]? := fun b h1 h2 => hg.block b h1 (fun e => h2 (Option.some.inj e))
  have hup : ∀ {T : VT} {v : Value}, InF lo w (h + 1) T v → InF lo w' (h + 1) T v := fun hT => InD.iff.1 (InD.keep a5 (fun b hb hl => blk b hl (by have : lo ≤ b := hb; omega)) (fun b hb _ => hb) (InD.iff.2 hT))
  refine ⟨a1, a2, a4, by omega, (blk Bm (by omega) (fun e => a4 e.symm)).trans o.box, ?_, ?_, ?_, ?_, ?_, ?_⟩
  · rw [List.length_append]; exact hown
  · have hh : Maps.has D (.string k) = false := by rw [o.has]; exact hk
    rw [List.map_append]
    exact (strKeys_put hM hh _).trans ((o.keys.cons k).trans (List.perm_append_singleton k _).symm)
  · exact List.pairwise_append.2 ⟨o.dis, List.pairwise_singleton _ _, fun a ha b hb => by
      rcases List.mem_singleton.1 hb with rfl
      exact hkk a ha⟩
  · intro f hf z
    rcases List.mem_append.1 hf with hf | hf
    · try dsimp only
      rw [if_neg (hkk f hf), atKey_put_other (fun e => hkk f hf (by injection e))]
      exact o.att f hf z
    · rcases List.mem_singleton.1 hf with rfl
      try dsimp only
      rw [if_pos rfl]
      exact atKey_put_same hM hkey _ _
  · intro x
    rw [List.any_append]
    by_cases e : x = k
    · subst e
      rw [has_put_same hM hkey]
      simp
    · rw [has_put_other (fun h => e (by injection h)), o.has]
      have : (k == x) = false := by rw [beq_eq_false_iff_ne]; exact fun h => e h.symm
      simp [this]
  · intro f hf
    rcases List.mem_append.1 hf with hf | hf
    · try dsimp only
      rw [if_neg (hkk f hf)]
      exact hup (o.trees f hf)
    · rcases List.mem_singleton.1 hf with rfl
      try dsimp only
      rw [if_pos rfl]
      exact hup hT
theorem ObC.start {lo h : Nat} (mb Bm : Nat) (vof : List UInt8 → Value) (w : World) (ml : mb < lo) (bl : Bm < lo) (ne : mb ≠ Bm) (ll : lo ≤ w.heap.size) (hB : w.heap[Bm]? = some (.cells #[.map (some mb)] 219 (0, 0))) (hm : w.heap[mb]? = some (.map #[] 0)) : ObC mb Bm lo h (.map []) vof [] w := by
  refine ⟨ml, bl, ne, ll, hB, ?_, List.Perm.refl _, List.Pairwise.nil, (fun f hf => by cases hf), (fun k => rfl), (fun f hf => by cases hf)⟩
  obtain ⟨es, clock, hb, F, hs, hD⟩ := World.ownsMap_made (H := Value) w Tryz.prog 9 heldE
  have e : (w.alloc (.map #[] 0)).heap[w.heap.size]? = some (.map #[] 0) := (MapKept.heap_alloc w _).1
  rw [e] at hb
  injection hb with hb
  injection hb with h1 h2
  subst h1 h2
  exact ⟨#[], 0, hm, F, hs, hD⟩
end Go.Proofs.YtfjmgccbpiolhaaGreatDoor
namespace Go.Proofs.YtfjmgccbpiolhaaGreatDoor
open Go.RowKit Go.Shelf Go.Maps Go.WideMaps
set_option linter.unusedVariables false
set_option linter.unusedSimpArgs false
attribute [local go_sem] Oper.semAt_some

theorem heldE_inj {v x : Value} {ps : List MemPlace} (h : heldE v = some (.held x, ps)) : v = x := by
  simp only [heldE, Option.some.injEq, Prod.mk.injEq, DataW.held.injEq] at h
  exact h.1
theorem flaw : Keyed Tryz.prog 9 := string_keyed Tryz.underlying9
theorem fzero (w : World) : (zeroValue 49).run Tryz.prog w = .ok (.agg #[.int .i64 0, .string ⟨#[]⟩, .string ⟨#[]⟩, .slice none 0 0, .slice none 0 0]) w := by kernel_rfl

structure OG (Bi Bd I B mb Bm lo H d p : Nat) (D : DataW Value) (vof : List UInt8 → Value) (fs : List (List UInt8 × VT)) (s : ByteArray) (kd pa fi : Nat) (tx : List UInt8) (w u : World) : Prop where
  ob : ObC mb Bm lo H D vof fs u
  lk : LK Bi Bd w.heap.size I d kd pa fi tx u
  inp : InAt u I s p
  err : ErrIn u
  bel : Bel I B w u
structure OPl (Bi Bd I B mb Bm lo : Nat) (w : World) : Prop where
  gI : I ≠ 4
  ib : I < B
  bm : B ≤ mb
  bi : Bi < B
  bd : Bd < B
  i1 : I ≠ Bi
  i2 : I ≠ Bd
  mB : mb < Bm
  Bl : Bm < lo
  ll : lo ≤ w.heap.size
theorem OG.but {Bi Bd I B mb Bm lo H d p q : Nat} {D : DataW Value} {vof : List UInt8 → Value} {fs : List (List UInt8 × VT)} {s : ByteArray} {kd pa fi : Nat} {tx : List UInt8} {w u u' : World} (P : OPl Bi Bd I B mb Bm lo w) (h : OG Bi Bd I B mb Bm lo H d p D vof fs s kd pa fi tx w u) (hb : But I u u') (hi : InAt u' I s q) : OG Bi Bd I B mb Bm lo H d q D vof fs s kd pa fi tx w u' := by
  obtain ⟨gI, ib, bm, bi, bd, i1, i2, mB, Bl, ll⟩ := P
  have h1 := h.bel.size
  have h2 := h.lk.li
  have h3 := h.lk.ld
  have h4 := h.lk.lt
  exact ⟨h.ob.but (by omega) (by omega) (by omega) hb, h.lk.keep hb.size (hb.block _ h2 (fun e => i1 e.symm)) (hb.block _ h3 (fun e => i2 e.symm)) (hb.block _ h4 (by omega)), hi, hb.errIn h.inp h.err gI, h.bel.trans (Bel.of hb (by omega))⟩
theorem OG.low {Bi Bd I B mb Bm lo H d p : Nat} {D : DataW Value} {vof : List UInt8 → Value} {fs : List (List UInt8 × VT)} {s : ByteArray} {kd pa fi : Nat} {tx : List UInt8} {w u u' : World} (P : OPl Bi Bd I B mb Bm lo w) (h : OG Bi Bd I B mb Bm lo H d p D vof fs s kd pa fi tx w u) (hb : Below u.heap.size u u') : OG Bi Bd I B mb Bm lo H d p D vof fs s kd pa fi tx w u' := h.but P (But.of hb) (h.inp.keep hb)
theorem OG.drew {Bi Bd I B mb Bm lo H d p : Nat} {D : DataW Value} {vof : List UInt8 → Value} {fs : List (List UInt8 × VT)} {s : ByteArray} {kd pa fi : Nat} {tx : List UInt8} {w u : World} (P : OPl Bi Bd I B mb Bm lo w) (h : OG Bi Bd I B mb Bm lo H d p D vof fs s kd pa fi tx w u) : OG Bi Bd I B mb Bm lo H d p D vof fs s kd pa fi tx w u.drew := h.low P ((Below.refl _ _).drew)
theorem OG.cells {Bi Bd I B mb Bm lo H d p : Nat} {D : DataW Value} {vof : List UInt8 → Value} {fs : List (List UInt8 × VT)} {s : ByteArray} {kd pa fi : Nat} {tx : List UInt8} {w u : World} (h : OG Bi Bd I B mb Bm lo H d p D vof fs s kd pa fi tx w u) : u.cell? ⟨Bm, 0, none⟩ = some (.map (some mb)) ∧ u.cell? ⟨Bi, 0, none⟩ = some (.pointer (some ⟨I, 0, none⟩)) ∧ u.cell? ⟨Bd, 0, none⟩ = some (.int .i64 (d : Int)) ∧ u.cell? ⟨w.heap.size, 3, none⟩ = some (.string ⟨tx.toArray⟩) := ⟨by rw [cell_of_row _ _ _ _ _ _ h.ob.box]; rfl, h.lk.ci, h.lk.cd, h.lk.c3⟩
theorem OG.look {Bi Bd I B mb Bm lo H d p : Nat} {D : DataW Value} {vof : List UInt8 → Value} {fs : List (List UInt8 × VT)} {s : ByteArray} {kd pa fi : Nat} {tx : List UInt8} {w u : World} (h : OG Bi Bd I B mb Bm lo H d p D vof fs s kd pa fi tx w u) (htx : tx.length ≤ 140737488355328) :
    ∃ (k : Int) (n t : ByteArray) (jo : Option Addr) (ja jc : Nat) (ko : Option Addr) (ka kc : Nat), (Instr.lookup 219 (.map (some mb)) (.string ⟨tx.toArray⟩) true).run Tryz.prog u = .ok (.tuple #[.agg #[.int .i64 k, .string n, .string t, .slice jo ja jc, .slice ko ka kc], .bool (fs.any (fun f => f.1 == tx))]) u := by
  have hkey : keyOf Tryz.prog 9 (.string ⟨tx.toArray⟩) = some (.string tx) := by
    have := keyOf_string_mk (s := (⟨tx.toArray⟩ : ByteArray)) Tryz.underlying9 (by show tx.toArray.size ≤ _; unfold maxLen; simp; omega)
    simpa using this
  obtain ⟨v, ps, hrun, hv⟩ := h.ob.own.look_ok flaw Tryz.underlying219 (fzero u) (zd := .held (.agg #[.int .i64 0, .string ⟨#[]⟩, .string ⟨#[]⟩, .slice none 0 0, .slice none 0 0])) (zp := []) rfl hkey
  rw [h.ob.has] at hrun
  cases ha : fs.any (fun f => f.1 == tx) with
  | false =>
    have hn : Maps.has D (.string tx) = false := by rw [h.ob.has]; exact ha
    rw [atKey_of_not_has hn] at hv
    have : v = .agg #[.int .i64 0, .string ⟨#[]⟩, .string ⟨#[]⟩, .slice none 0 0, .slice none 0 0] := heldE_inj hv
    subst this
    rw [ha] at hrun
    exact ⟨_, _, _, _, _, _, _, _, _, hrun⟩
  | true =>
    obtain ⟨f, hf, he⟩ := List.any_eq_true.1 ha
    have he' : f.1 = tx := by simpa using he
    subst he'
    rw [h.ob.att f hf] at hv
    have : v = vof f.1 := heldE_inj hv
    subst this
    obtain ⟨jo, jc, ko, kc, hvv, _⟩ := h.ob.trees f hf
    rw [ha, hvv] at hrun
    exact ⟨_, _, _, _, _, _, _, _, _, hrun⟩
end Go.Proofs.YtfjmgccbpiolhaaGreatDoor
namespace Go.Proofs.YtfjmgccbpiolhaaGreatDoor
open Go.RowKit Go.Shelf Go.Maps Go.WideMaps
set_option linter.unusedVariables false
set_option linter.unusedSimpArgs false
attribute [local go_sem] Oper.semAt_some

structure ObT (mb Bm Bi Bd I lo H d : Nat) (fs : List (List UInt8 × VT)) (u : World) : Prop where
  obj : ∃ D vof, ObC mb Bm lo H D vof fs u
  ci : u.cell? ⟨Bi, 0, none⟩ = some (.pointer (some ⟨I, 0, none⟩))
  cd : u.cell? ⟨Bd, 0, none⟩ = some (.int .i64 (d : Int))
def O1R (mb Bm Bi Bd I B lo H d p : Nat) (s : ByteArray) (w : World) (r : Rd (List (List UInt8 × VT))) (e : Ending) (w' : World) : Prop := Bel I B w w' ∧
  match r with
  | .ok y q => e = .returned (.tuple #[]) ∧ InAt w' I s q ∧ ObT mb Bm Bi Bd I lo H d y w' ∧ p ≤ q ∧ q ≤ s.size ∧ y.length ≤ q
  | .bad er q => e = .panicked (fch er q)

set_option maxRecDepth 100000 in
set_option maxHeartbeats 3200000 in
theorem w_obj1 (s : ByteArray) (ss : s.size ≤ 1073741824) (I Bi Bd B mb Bm lo H d p : Nat) (hd : d ≤ 1000) (vl : Tok → Nat → Rd VT) (HV : ValD s I H (d + 1) vl) (HU : ValUp s vl) (hTx : ∀ p t p1, mustL s.data.toList p = .ok t p1 → t.text.length ≤ 140737488355328)
    (fs : List (List UInt8 × VT)) (D : DataW Value) (vof : List UInt8 → Value) (kd pa fi : Nat) (tx : List UInt8) (er : Nat) (w : World) (P : OPl Bi Bd I B mb Bm lo w) (hO : ObC mb Bm lo H D vof fs w) (hci : w.cell? ⟨Bi, 0, none⟩ = some (.pointer (some ⟨I, 0, none⟩))) (hcd : w.cell? ⟨Bd, 0, none⟩ = some (.int .i64 (d : Int)))
    (p0 : Nat) (hp0 : p0 < p) (hfit : fs.length ≤ p0) (htx : tx.length ≤ 140737488355328) (hI : InAt w I s p) (hE : ErrIn w) (hp : p ≤ s.size) :
    Calls Tryz.prog 138 #[.agg #[.int .i64 (kd : Int), .int .i64 (pa : Int), .int .i64 (fi : Int), .string ⟨tx.toArray⟩], .pointer (some ⟨Bm, 0, none⟩), .pointer (some ⟨Bi, 0, none⟩), .pointer (some ⟨Bd, 0, none⟩)] w fun e w' => O1R mb Bm Bi Bd I B lo H d p s w (oPt s.data.toList vl fs ⟨kd, pa, fi, tx, er⟩ p) e w' := by
  have mixed : Tryz.prog.follows .mixedOrders = true := by kernel_rfl
  have hwr : IntKind.i64.wrap ((d : Int) + 1) = (d : Int) + 1 := by rw [IntKind.wrap_i64]; omega
  have HP := Hid.mk P
  have HG1 : Hid (OG Bi Bd I B mb Bm lo H d p D vof fs s kd pa fi tx w (w.alloc (.cells #[.int .i64 (kd : Int), .int .i64 (pa : Int), .int .i64 (fi : Int), .string ⟨tx.toArray⟩] 126))) := by
    have hb := below1 w (.cells #[.int .i64 (kd : Int), .int .i64 (pa : Int), .int .i64 (fi : Int), .string ⟨tx.toArray⟩] 126)
    have hn := heap_alloc_new w (.cells #[.int .i64 (kd : Int), .int .i64 (pa : Int), .int .i64 (fi : Int), .string ⟨tx.toArray⟩] 126)
    have hsz : (w.alloc (.cells #[.int .i64 (kd : Int), .int .i64 (pa : Int), .int .i64 (fi : Int), .string ⟨tx.toArray⟩] 126)).heap.size = w.heap.size + 1 := by simp
    obtain ⟨gI, ib, bm, bi, bd, i1, i2, mB, Bl, ll⟩ := P
    refine ⟨hO.low hb, ⟨(World.cell?_of_block (a := ⟨Bi, 0, none⟩) (hb.block _ (by show Bi < _; omega))).trans hci, (World.cell?_of_block (a := ⟨Bd, 0, none⟩) (hb.block _ (by show Bd < _; omega))).trans hcd, ?_, ?_, ?_, ?_, by omega, by omega, by omega⟩, hI.keep hb, hE.keep hb, Bel.of (But.of hb) (by omega)⟩ <;> rw [cell_of_row _ _ _ _ _ _ hn] <;> rfl
  have HBe := Hid.mk (fun k (t : Tok) u => w_mustBe k t u)
  have HB11 : Hid (∀ u, Calls Tryz.prog 139 #[.int .i64 11, .agg #[.int .i64 (kd : Int), .int .i64 (pa : Int), .int .i64 (fi : Int), .string ⟨tx.toArray⟩]] u fun e w' => Below u.heap.size u w' ∧ ((kd = 11 ∧ e = .returned (.tuple #[])) ∨ (kd ≠ 11 ∧ e = .panicked (fch 51 pa)))) := fun u => w_mustBe 11 ⟨kd, pa, fi, tx, er⟩ u
  have HMust := Hid.mk (fun u p (hp : p ≤ s.size) (hu : InAt u I s p) (hEu : ErrIn u) => w_must s ss I p hp u hu hEu)
  have HVV := Hid.mk HV
  have HUU := Hid.mk HU
  have HTx := Hid.mk hTx
  have HTt := Hid.mk htx
  have HFit := Hid.mk (And.intro hp0 hfit)
  have HPl := Hid.mk (And.intro P.ib (And.intro P.bm (And.intro P.bi (And.intro P.bd (And.intro P.mB (And.intro P.Bl P.ll))))))
  obtain ⟨R, hR⟩ : ∃ R, oPt s.data.toList vl fs ⟨kd, pa, fi, tx, er⟩ p = R := ⟨_, rfl⟩
  rw [hR]
  unfold oPt at hR
  dsimp only at hR
  have HR := Hid.mk hR
  clear hR hO hci hcd hI hE HV HU hTx htx P hp0 hfit
  obtain ⟨g1, g2, g3, g4⟩ := HG1.out.cells
  have a0 := HG1.out.lk.c0
  have a1 := HG1.out.lk.c1
  have a2 := HG1.out.lk.c2
  go_enter Tryz.func138, Tryz.ntmps138
  go_wp2_with fail
  refine (HB11.out _).mono ?_
  rintro e w2 ⟨hb2, ⟨hk, rfl⟩ | ⟨hk, rfl⟩⟩
  rotate_left
  · refine ⟨rfl, (HG1.out.low HP.out hb2).bel, ?_⟩
    have hR := HR.out
    rw [if_neg hk] at hR
    rw [← hR]
  subst hk
  have HG2 := Hid.mk (HG1.out.low HP.out hb2)
  have h2sz : w.heap.size < w2.heap.size := HG2.out.lk.lt
  clear hb2 g1 g2 g3 g4 a0 a1 a2
  have hR := HR.out
  rw [if_pos rfl] at hR
  have HR2 := Hid.mk hR
  clear hR HR
  obtain ⟨g1, g2, g3, g4⟩ := HG2.out.cells
  have a1 := HG2.out.lk.c1
  have hBm2 : Bm < w2.heap.size := by have h1 := HPl.out; have h2 := HG2.out.bel.size; omega
  have hBi2 : Bi < w2.heap.size := HG2.out.lk.li
  have hBd2 : Bd < w2.heap.size := HG2.out.lk.ld
  obtain ⟨vk, vn, vt, vjo, vja, vjc, vko, vka, vkc, hlook⟩ := HG2.out.look HTt.out
  cases ha : fs.any (fun f => f.1 == tx) with
  | true =>
    rw [ha] at hlook
    have hR := HR2.out
    rw [if_pos ha] at hR
    have HR3 := Hid.mk hR
    clear hR HR2 ha
    go_wp2_with fail
    refine ⟨rfl, (HG2.out.low HP.out (below1 w2 _)).bel, ?_⟩
    rw [← HR3.out]
    rfl
  | false =>
    rw [ha] at hlook
    have hR := HR2.out
    rw [if_neg (by rw [ha]; decide)] at hR
    have HR3 := Hid.mk hR
    have HA := Hid.mk ha
    clear hR HR2 ha
    have HG3 := Hid.mk (HG2.out.low HP.out (below1 w2 (.cells #[.int .i64 vk, .string vn, .string vt, .slice vjo vja vjc, .slice vko vka vkc] 49)))
    go_wp2_with fail
    refine (HMust.out _ p hp HG3.out.inp HG3.out.err).mono ?_
    rintro e w4 ⟨hbut, hm⟩
    cases hml : mustL s.data.toList p with
    | bad e4 q4 =>
      rw [hml] at hm
      have hm' : e = .panicked (fch e4 q4) := hm
      subst hm'
      have hR := HR3.out
      rw [hml] at hR
      have hw3 := HG3.out.bel
      refine ⟨rfl, hw3.trans (Bel.of hbut (by have h1 := hw3.size; have h2 := HPl.out; omega)), ?_⟩
      rw [← hR]
    | ok c4 p1 =>
      rw [hml] at hm
      obtain ⟨⟨v, rfl, rfl⟩, hin⟩ := hm
      obtain ⟨u1, u2⟩ := mustL_up hp hml
      have HG4 := Hid.mk (HG3.out.but HP.out hbut hin)
      have hR := HR3.out
      rw [hml] at hR
      have HR4 := Hid.mk hR
      clear hR HR3 hbut hin hml hlook g1 g2 g3 g4 a1
      obtain ⟨k4, pa4, fi4, tx4, er4⟩ := c4
      have HB5 : Hid (∀ u, Calls Tryz.prog 139 #[.int .i64 5, .agg #[.int .i64 (k4 : Int), .int .i64 (pa4 : Int), .int .i64 (fi4 : Int), .string ⟨tx4.toArray⟩]] u fun e w' => Below u.heap.size u w' ∧ ((k4 = 5 ∧ e = .returned (.tuple #[])) ∨ (k4 ≠ 5 ∧ e = .panicked (fch 51 pa4)))) := fun u => w_mustBe 5 ⟨k4, pa4, fi4, tx4, er4⟩ u
      unfold tokV
      dsimp only at HR4 ⊢
      go_wp2_with fail
      refine (HB5.out _).mono ?_
      rintro e w5 ⟨hb5, ⟨hk5, rfl⟩ | ⟨hk5, rfl⟩⟩
      rotate_left
      · refine ⟨rfl, (HG4.out.low HP.out hb5).bel, ?_⟩
        have hR := HR4.out
        rw [if_neg hk5] at hR
        rw [← hR]
      have HG5 := Hid.mk (HG4.out.low HP.out hb5)
      have hR := HR4.out
      rw [if_pos hk5] at hR
      have HR5 := Hid.mk hR
      clear hR HR4 hb5 hk5 HB5
      have HGD := Hid.mk (HG5.out.drew HP.out)
      have HS : Hid (∀ {q : Nat} {u : World}, OG Bi Bd I B mb Bm lo H d q D vof fs s 11 pa fi tx w u → u.cell? ⟨Bm, 0, none⟩ = some (.map (some mb)) ∧ u.cell? ⟨Bi, 0, none⟩ = some (.pointer (some ⟨I, 0, none⟩)) ∧ u.cell? ⟨Bd, 0, none⟩ = some (.int .i64 (d : Int)) ∧ u.cell? ⟨w.heap.size, 3, none⟩ = some (.string ⟨tx.toArray⟩)) := fun h => h.cells
      go_wp2_with fail
      refine wp_region_held_drew (S := (fun u => u.cell? ⟨Bm, 0, none⟩ = some (.map (some mb)) ∧ u.cell? ⟨Bi, 0, none⟩ = some (.pointer (some ⟨I, 0, none⟩)) ∧ u.cell? ⟨Bd, 0, none⟩ = some (.int .i64 (d : Int)) ∧ u.cell? ⟨w.heap.size, 3, none⟩ = some (.string ⟨tx.toArray⟩))) (by kernel_rfl) (HS.out HGD.out) (fun hHeld => ?_)
      refine wpAnyH_take (i := 0) (oi := _) (v := .map (some mb)) rfl (by kernel_rfl) (by kernel_rfl) (by kernel_rfl) (fun _ _ _ h => h) (Or.inl ⟨by rfl, ?_⟩) (by assumption) ?_
      · intro w hSw
        go_simp
      try simp only [Act.put, List.setIfInBounds_toArray, List.set_cons_zero, List.set_cons_succ]
      refine wpAnyH_take (i := 1) (oi := _) (v := .pointer (some ⟨w.heap.size, 3, none⟩)) rfl (by kernel_rfl) (by kernel_rfl) (by kernel_rfl) (fun _ _ _ h => h) (Or.inl ⟨by rfl, ?_⟩) (by assumption) ?_
      · intro w hSw
        go_simp
      try simp only [Act.put, List.setIfInBounds_toArray, List.set_cons_zero, List.set_cons_succ]
      refine wpAnyH_take (i := 2) (oi := _) (v := .string ⟨tx.toArray⟩) rfl (by kernel_rfl) (by kernel_rfl) (by kernel_rfl) (fun _ _ _ h => h) (Or.inl ⟨by rfl, ?_⟩) (by assumption) ?_
      · intro w hSw
        go_simp
      try simp only [Act.put, List.setIfInBounds_toArray, List.set_cons_zero, List.set_cons_succ]
      refine wpAnyH_take (i := 3) (oi := _) (v := .pointer (some ⟨I, 0, none⟩)) rfl (by kernel_rfl) (by kernel_rfl) (by kernel_rfl) (fun _ _ _ h => h) (Or.inl ⟨by rfl, ?_⟩) (by assumption) ?_
      · intro w hSw
        go_simp
      try simp only [Act.put, List.setIfInBounds_toArray, List.set_cons_zero, List.set_cons_succ]
      refine wpAnyH_take (i := 4) (oi := _) (v := .pointer (some ⟨I, 0, none⟩)) rfl (by kernel_rfl) (by kernel_rfl) (by kernel_rfl) (fun _ _ _ h => h) (Or.inl ⟨by rfl, ?_⟩) (by assumption) ?_
      · intro w hSw
        go_simp
      try simp only [Act.put, List.setIfInBounds_toArray, List.set_cons_zero, List.set_cons_succ]
      refine wpAnyH_take (i := 6) (oi := _) (v := .int .i64 (d : Int)) rfl (by kernel_rfl) (by kernel_rfl) (by kernel_rfl) (fun _ _ _ h => h) (Or.inl ⟨by rfl, ?_⟩) (by assumption) ?_
      · intro w hSw
        go_simp
      try simp only [Act.put, List.setIfInBounds_toArray, List.set_cons_zero, List.set_cons_succ]
      refine wpAnyH_take (i := 7) (oi := _) (v := .int .i64 ((d : Int) + 1)) rfl (by kernel_rfl) (by kernel_rfl) (by kernel_rfl) (fun _ _ _ h => h) (Or.inl ⟨by rfl, ?_⟩) (by assumption) ?_
      · intro w hSw
        go_simp
      try simp only [Act.put, List.setIfInBounds_toArray, List.set_cons_zero, List.set_cons_succ]
      refine wpAnyH_ready (rs := [5]) (by kernel_rfl) (by simp) ?_
      refine AllReadyH.cons (o := _) rfl (fun KK hK => ?_) AllReadyH.nil
      go_simp
      go_at_call 97
      refine (HMust.out _ p1 u2 HGD.out.inp HGD.out.err).mono ?_
      rintro e w6 ⟨hbut, hm⟩
      cases hml : mustL s.data.toList p1 with
      | bad e6 q6 =>
        rw [hml] at hm
        have hm' : e = .panicked (fch e6 q6) := hm
        subst hm'
        have hR := HR5.out
        rw [hml] at hR
        have hw5 := HGD.out.bel
        refine ⟨rfl, hw5.trans (Bel.of hbut (by have h1 := hw5.size; have h2 := HPl.out; omega)), ?_⟩
        rw [← hR]
      | ok c6 p2 =>
        rw [hml] at hm
        obtain ⟨⟨v, rfl, rfl⟩, hin⟩ := hm
        obtain ⟨u3, u4⟩ := mustL_up u2 hml
        have HG6 := Hid.mk (HGD.out.but HP.out hbut hin)
        have HT6 := Hid.mk (HTx.out _ _ _ hml)
        have hR := HR5.out
        rw [hml] at hR
        dsimp only at hR
        have HR6 := Hid.mk hR
        clear hR HR5 hbut hin hml
        go_wp2_with fail
        refine hK.out _ _ (HS.out HG6.out) (fun hHeld => ?_)
        clear hK KK
        try simp only [Act.put, List.setIfInBounds_toArray, List.set_cons_zero, List.set_cons_succ]
        refine wpAnyH_ready (rs := [8]) (by kernel_rfl) (by simp) ?_
        refine AllReadyH.cons (o := _) rfl (fun KK hK => ?_) AllReadyH.nil
        go_simp
        go_at_call 96
        refine (HVV.out c6 p2 _ u4 HT6.out HG6.out.inp HG6.out.err).mono ?_
        rintro e w7 ⟨hbut, hm⟩
        cases hvl : vl c6 p2 with
        | bad e7 q7 =>
          rw [hvl] at hm
          have hm' : e = .panicked (fch e7 q7) := hm
          subst hm'
          have hR := HR6.out
          rw [hvl] at hR
          have hw6 := HG6.out.bel
          refine ⟨rfl, hw6.trans (Bel.of hbut (by have h1 := hw6.size; have h2 := HPl.out; omega)), ?_⟩
          rw [← hR]
        | ok T q =>
          rw [hvl] at hm
          obtain ⟨⟨v, rfl, hF⟩, hin⟩ := hm
          obtain ⟨u5, u6⟩ := HUU.out _ _ _ _ u4 hvl
          have HG7 := Hid.mk (HG6.out.but HP.out hbut hin)
          have hR := HR6.out
          rw [hvl] at hR
          dsimp only at hR
          have HR7 := Hid.mk hR
          have hlow : lo ≤ w6.heap.size := HG6.out.ob.ll
          have HF : Hid (InF lo w7 (H + 1) T v) := InD.iff.1 (InD.keep (Nat.le_refl _) (fun b hb hl => rfl) (fun b hb _ => by have : w6.heap.size ≤ b := hb; show lo ≤ b; omega) (InD.iff.2 hF))
          clear hR HR6 hbut hin hvl hF
          have hkey : keyOf Tryz.prog 9 (.string ⟨tx.toArray⟩) = some (.string tx) := by
            have := keyOf_string_mk (s := (⟨tx.toArray⟩ : ByteArray)) Tryz.underlying9 (by show tx.toArray.size ≤ _; have := HTt.out; unfold maxLen; simp; omega)
            simpa using this
          obtain ⟨w8, hrun, hown8, hg8⟩ := HG7.out.ob.own.update flaw Tryz.underlying219 (by have := HFit.out; unfold maxLen; omega) hkey (d := .held v) (ps := []) rfl
          have HO8 := Hid.mk (HG7.out.ob.put HA.out HF.out hown8 hg8)
          have HG8 := Hid.mk hg8
          clear hown8 hg8 hkey
          go_wp2_with fail
          refine hK.out _ _ (HS.out HG7.out) (fun hHeld => ?_)
          clear hK KK
          try simp only [Act.put, List.setIfInBounds_toArray, List.set_cons_zero, List.set_cons_succ]
          refine wpAnyH_ready (rs := [9]) (by kernel_rfl) (by simp) ?_
          refine AllReadyH.cons (o := _) rfl (fun KK hK => ?_) AllReadyH.nil
          go_simp
          have hblk : ∀ b, b < w7.heap.size → b ≠ mb → w8.heap[b]? = w7.heap[b]? := fun b h1 h2 => HG8.out.block b h1 (fun e => h2 (Option.some.inj e))
          have hc8 : w8.cell? ⟨Bm, 0, none⟩ = some (.map (some mb)) ∧ w8.cell? ⟨Bi, 0, none⟩ = some (.pointer (some ⟨I, 0, none⟩)) ∧ w8.cell? ⟨Bd, 0, none⟩ = some (.int .i64 (d : Int)) ∧ w8.cell? ⟨w.heap.size, 3, none⟩ = some (.string ⟨tx.toArray⟩) := by
            obtain ⟨c1, c2, c3, c4⟩ := HG7.out.cells
            have hpl := HPl.out
            have l1 := HG7.out.lk.li
            have l2 := HG7.out.lk.ld
            have l3 := HG7.out.lk.lt
            exact ⟨(World.cell?_of_block (a := ⟨Bm, 0, none⟩) (hblk Bm (by omega) (by omega))).trans c1, (World.cell?_of_block (a := ⟨Bi, 0, none⟩) (hblk Bi l1 (by omega))).trans c2, (World.cell?_of_block (a := ⟨Bd, 0, none⟩) (hblk Bd l2 (by omega))).trans c3, (World.cell?_of_block (a := ⟨w.heap.size, 3, none⟩) (hblk w.heap.size l3 (by omega))).trans c4⟩
          refine hK.out _ _ hc8 (fun hHeld => ?_)
          clear hK KK
          try simp only [Act.put, List.setIfInBounds_toArray, List.set_cons_zero, List.set_cons_succ]
          refine wpAnyH_done (by kernel_rfl) ?_ _
          go_wp2_with fail
          refine bodyPost_end (v := .tuple #[]) (results_none Tryz.results138 _ _ _) rfl ?_
          have hpl := HPl.out
          have hbs := HG7.out.bel.size
          have hgs := HG8.out.size
          refine ⟨⟨HG8.out.os.trans HG7.out.bel.os, HG8.out.tape.trans HG7.out.bel.tape, HG8.out.output.trans HG7.out.bel.output, by omega, fun b h1 h2 => (hblk b (by omega) (by omega)).trans (HG7.out.bel.block b h1 h2)⟩, ?_⟩
          rw [← HR7.out]
          have hIl := HG7.out.inp.lt
          have hfit := HFit.out
          refine ⟨rfl, (hblk I hIl (by omega)).trans HG7.out.inp, ⟨⟨_, _, HO8.out⟩, hc8.2.1, hc8.2.2.1⟩, by omega, u6, ?_⟩
          rw [List.length_append]
          show fs.length + 1 ≤ q
          omega
end Go.Proofs.YtfjmgccbpiolhaaGreatDoor
namespace Go.Proofs.YtfjmgccbpiolhaaGreatDoor
open Go.RowKit Go.Shelf Go.Maps Go.WideMaps
set_option linter.unusedVariables false
set_option linter.unusedSimpArgs false

theorem Tryz.infoStr : (Tryz.prog.info? 9).map (fun i => (i.zero, i.size, i.bytes)) = some (some (.string ⟨#[]⟩), 1, 16) := by kernel_rfl
theorem obj_part (s : ByteArray) (ss : s.size ≤ 1073741824) (I Bi Bd B mb Bm lo H d : Nat) (hd : d ≤ 1000) (vl : Tok → Nat → Rd VT) (HV : ValD s I H (d + 1) vl) (HU : ValUp s vl) (hTx : ∀ p t p1, mustL s.data.toList p = .ok t p1 → t.text.length ≤ 140737488355328)
    (gI : I ≠ 4) (ib : I < B) (bm : B ≤ mb) (bi : Bi < B) (bd : Bd < B) (i1 : I ≠ Bi) (i2 : I ≠ Bd) (mB : mb < Bm) (Bl : Bm < lo) :
    PartOk I B 138 #[.pointer (some ⟨Bm, 0, none⟩), .pointer (some ⟨Bi, 0, none⟩), .pointer (some ⟨Bd, 0, none⟩)] s (oPt s.data.toList vl) (fun fs p => fs.length ≤ p) (ObT mb Bm Bi Bd I lo H d) where
  up := fun x p q h1 h2 => Nat.le_trans h1 h2
  ent := enters_of Tryz.func138 (by kernel_rfl) rfl
  call := by
    rintro fs t p w ⟨⟨D, vof, hO⟩, ci, cd⟩ ⟨p0, hp0, hfit⟩ htx hI hE hp hB
    have hll := hO.ll
    obtain ⟨kd, pa, fi, tx, er⟩ := t
    refine (w_obj1 s ss I Bi Bd B mb Bm lo H d p hd vl HV HU hTx fs D vof kd pa fi tx er w ⟨gI, ib, bm, bi, bd, i1, i2, mB, Bl, hll⟩ hO ci cd p0 hp0 hfit htx hI hE hp).mono ?_
    rintro e w' ⟨hbel, hm⟩
    refine ⟨hbel, ?_⟩
    revert hm
    cases oPt s.data.toList vl fs ⟨kd, pa, fi, tx, er⟩ p <;> exact fun h => h
  keep := by
    rintro fs w w' ⟨⟨D, vof, hO⟩, ci, cd⟩ hb
    have hll := hO.ll
    exact ⟨⟨D, vof, hO.but (by omega) (by omega) (by omega) hb⟩, (World.cell?_of_block (a := ⟨Bi, 0, none⟩) (hb.block _ (by show Bi < _; omega) (by show Bi ≠ I; omega))).trans ci, (World.cell?_of_block (a := ⟨Bd, 0, none⟩) (hb.block _ (by show Bd < _; omega) (by show Bd ≠ I; omega))).trans cd⟩

def kyR (ky : Nat → List UInt8) (k : Nat) : List Value := (List.range k).map fun i => .string ⟨(ky i).toArray⟩
theorem kyR_up (ky : Nat → List UInt8) (k : Nat) : kyR ky (k + 1) = kyR ky k ++ [.string ⟨(ky k).toArray⟩] := by unfold kyR; rw [List.range_succ, List.map_append]; rfl
theorem own_cellsR {w : World} {base : Nat} {e : TypeId} {size : Nat} {v : Value} {n : Nat} {xs : List Value} (h : w.ownsRow base e size v n xs) {g : Nat} (hg : v.ownBlock = some g) : ∃ cur, w.heap[g]? = some (.cells cur e (0, 0)) ∧ base ≤ g := by
  rcases h.2 with ⟨rfl, _⟩ | ⟨g', cap, cur, rfl, e2, e3, _⟩
  · cases hg
  · simp [Value.ownBlock] at hg
    subst hg
    exact ⟨cur, e3, e2⟩
theorem own_succR {w : World} {base : Nat} {e : TypeId} {size : Nat} {v : Value} {n : Nat} {xs : List Value} (h : w.ownsRow base e size v (n + 1) xs) : ∃ g cap, v = .slice (some ⟨g, 0, none⟩) (n + 1) cap := by
  rcases h.2 with ⟨e, h0⟩ | ⟨g, cap, cur, e, _⟩
  · omega
  · exact ⟨_, _, e⟩
structure GrS (w W0 : World) (ky : Nat → List UInt8) (c : Nat → Fin 5 → Value) (a b : Nat) (vi vk : Value) (W : World) : Prop where
  below : Below w.heap.size w W
  mid : ∀ x, w.heap.size + 2 ≤ x → x < W0.heap.size → W.heap[x]? = W0.heap[x]?
  lo : w.heap.size + 2 ≤ W0.heap.size
  le : W0.heap.size ≤ W.heap.size
  res : W.heap[w.heap.size]? = some (.cells #[.int .i64 0, .string ⟨#[]⟩, .string ⟨#[]⟩, .slice none 0 0, .slice none 0 0] 49 (0, 0))
  out : W.heap[w.heap.size + 1]? = some (.cells #[.int .i64 6, .string ⟨#[]⟩, .string ⟨#[]⟩, vi, vk] 49 (0, 0))
  keys : W.ownsRow W0.heap.size 9 1 vk a (kyR ky a)
  items : W.ownsRow W0.heap.size 49 5 vi b (flat c b)
theorem GrS.keysUp {w W0 W w4 : World} {ky : Nat → List UInt8} {c : Nat → Fin 5 → Value} {k : Nat} {vi vk vk' : Value} {o : Obj} (h : GrS w W0 ky c k k vi vk W) (hg : (W.alloc o).grownBy w4 vk.ownBlock) (hown : w4.ownsRow W0.heap.size 9 1 vk' (k + 1) (kyR ky k ++ [.string ⟨(ky k).toArray⟩])) :
    GrS w W0 ky c (k + 1) k vi vk' (w4.setCell ⟨w.heap.size + 1, 4, none⟩ vk') ∧ w4.heap[w.heap.size + 1]? = some (.cells #[.int .i64 6, .string ⟨#[]⟩, .string ⟨#[]⟩, vi, vk] 49 (0, 0)) := by
  have hlo := h.lo
  have hle := h.le
  have hbz := h.below.size
  have nk : ∀ b, b < W0.heap.size → some b ≠ vk.ownBlock := fun b hb e => by
    obtain ⟨_, _, h2⟩ := own_cellsR h.keys e.symm; omega
  have old : ∀ b, b < W.heap.size → some b ≠ vk.ownBlock → w4.heap[b]? = W.heap[b]? := fun b hb hne => (hg.block b (by simp; omega) hne).trans (Below.heap_alloc _ _ b hb)
  have o4 := (old (w.heap.size + 1) (by omega) (nk _ (by omega))).trans h.out
  have oth : ∀ b, b ≠ w.heap.size + 1 → (w4.setCell ⟨w.heap.size + 1, 4, none⟩ vk').heap[b]? = w4.heap[b]? := fun b hb => Below.heap_setCell _ _ _ _ hb
  have hsz : W.heap.size ≤ w4.heap.size := by have := hg.size; simp at this; omega
  refine ⟨⟨?_, ?_, hlo, by simp; omega, ?_, ?_, ?_, ?_⟩, o4⟩
  · exact ((h.below.alloc hbz o).grown hg (by simp; omega) (fun r e => by obtain ⟨_, _, h2⟩ := own_cellsR h.keys e; omega)).setCell (p := ⟨w.heap.size + 1, 4, none⟩) (by show _ ≤ w.heap.size + 1; omega) _
  · intro x h1 h2
    rw [oth x (by omega), old x (by omega) (nk x h2)]
    exact h.mid x h1 h2
  · rw [oth _ (by omega), old _ (by omega) (nk _ (by omega))]; exact h.res
  · exact rset (i := 4) (c := #[.int .i64 6, .string ⟨#[]⟩, .string ⟨#[]⟩, vi, vk]) _ o4
  · rw [kyR_up]
    exact own_keepR hown fun g e _ => oth g (by obtain ⟨_, _, h2⟩ := own_cellsR hown e; omega)
  · refine own_keepR h.items fun g e hl => ?_
    obtain ⟨cur, h1, h2⟩ := own_cellsR h.items e
    rw [oth g (by omega), old g hl (fun e2 => by
      obtain ⟨cur2, h3, _⟩ := own_cellsR h.keys e2.symm
      rw [h1] at h3; simp at h3)]
theorem GrS.itemsUp {w W0 W w6 : World} {ky : Nat → List UInt8} {c : Nat → Fin 5 → Value} {a k : Nat} {vi vk vi' : Value} {o : Obj} (h : GrS w W0 ky c a k vi vk W) (hg : (W.alloc o).grownBy w6 vi.ownBlock) (hown : w6.ownsRow W0.heap.size 49 5 vi' (k + 1) (flat c k ++ [c k 0, c k 1, c k 2, c k 3, c k 4])) :
    GrS w W0 ky c a (k + 1) vi' vk (w6.setCell ⟨w.heap.size + 1, 3, none⟩ vi') ∧ w6.heap[w.heap.size + 1]? = some (.cells #[.int .i64 6, .string ⟨#[]⟩, .string ⟨#[]⟩, vi, vk] 49 (0, 0)) := by
  have hlo := h.lo
  have hle := h.le
  have hbz := h.below.size
  have nk : ∀ b, b < W0.heap.size → some b ≠ vi.ownBlock := fun b hb e => by
    obtain ⟨_, _, h2⟩ := own_cellsR h.items e.symm; omega
  have old : ∀ b, b < W.heap.size → some b ≠ vi.ownBlock → w6.heap[b]? = W.heap[b]? := fun b hb hne => (hg.block b (by simp; omega) hne).trans (Below.heap_alloc _ _ b hb)
  have o4 := (old (w.heap.size + 1) (by omega) (nk _ (by omega))).trans h.out
  have oth : ∀ b, b ≠ w.heap.size + 1 → (w6.setCell ⟨w.heap.size + 1, 3, none⟩ vi').heap[b]? = w6.heap[b]? := fun b hb => Below.heap_setCell _ _ _ _ hb
  have hsz : W.heap.size ≤ w6.heap.size := by have := hg.size; simp at this; omega
  refine ⟨⟨?_, ?_, hlo, by simp; omega, ?_, ?_, ?_, ?_⟩, o4⟩
  · exact ((h.below.alloc hbz o).grown hg (by simp; omega) (fun r e => by obtain ⟨_, _, h2⟩ := own_cellsR h.items e; omega)).setCell (p := ⟨w.heap.size + 1, 3, none⟩) (by show _ ≤ w.heap.size + 1; omega) _
  · intro x h1 h2
    rw [oth x (by omega), old x (by omega) (nk x h2)]
    exact h.mid x h1 h2
  · rw [oth _ (by omega), old _ (by omega) (nk _ (by omega))]; exact h.res
  · exact rset (i := 3) (c := #[.int .i64 6, .string ⟨#[]⟩, .string ⟨#[]⟩, vi, vk]) _ o4
  · refine own_keepR h.keys fun g e hl => ?_
    obtain ⟨cur, h1, h2⟩ := own_cellsR h.keys e
    rw [oth g (by omega), old g hl (fun e2 => by
      obtain ⟨cur2, h3, _⟩ := own_cellsR h.items e2.symm
      rw [h1] at h3; simp at h3)]
  · rw [flat_up]
    exact own_keepR hown fun g e _ => oth g (by obtain ⟨_, _, h2⟩ := own_cellsR hown e; omega)

def cV (v : Value) (j : Fin 5) : Value := match v with
  | .agg a => a.getD j.1 undef
  | _ => undef
def kyO (fs : List (List UInt8 × VT)) (i : Nat) : List UInt8 := ((objS fs).map (·.1)).getD i []
theorem mem_objS {fs : List (List UInt8 × VT)} {i : Nat} (hi : i < fs.length) : ∃ f ∈ fs, (objS fs)[i]? = some f ∧ kyO fs i = f.1 := by
  have hl : (objS fs).length = fs.length := (objS_perm fs).length_eq
  have h1 : (objS fs)[i]? = some ((objS fs)[i]'(by omega)) := List.getElem?_eq_getElem (by omega)
  refine ⟨_, (objS_perm fs).mem_iff.1 (List.getElem_mem (by omega)), h1, ?_⟩
  unfold kyO
  simp [List.getD, h1]
theorem gr_done {mb Bm lo H : Nat} {D : DataW Value} {vof : List UInt8 → Value} {fs : List (List UInt8 × VT)} {w W0 W u : World} {io ko : Option Addr} {ic kc : Nat} (hO : ObC mb Bm lo H D vof fs w) (hn : fs.length ≤ 1073741824) (hkl : ∀ f ∈ fs, f.1.length ≤ 140737488355328)
    (h : GrS w W0 (kyO fs) (fun i => cV (vof (kyO fs i))) fs.length fs.length (.slice io fs.length ic) (.slice ko fs.length kc) W) (hz : W.heap.size ≤ u.heap.size) (hs : ∀ b, lo ≤ b → b < W.heap.size → b ≠ w.heap.size → u.heap[b]? = W.heap[b]?) :
    InF lo u (H + 1 + 1) (objT fs) (.agg #[.int .i64 6, .string ⟨#[]⟩, .string ⟨#[]⟩, .slice io fs.length ic, .slice ko fs.length kc]) := by
  have hl : (objS fs).length = fs.length := (objS_perm fs).length_eq
  have h1 := h.lo
  have h2 := h.le
  have h3 := hO.ll
  have hbz := h.below.size
  have ci : fs.length ≤ ic := by
    rcases h.items.2 with ⟨e, e2⟩ | ⟨g, c2, cur, e, e1, e2, e3, e4, e5, e6⟩
    · omega
    · simp only [Value.slice.injEq] at e; omega
  have ck : fs.length ≤ kc := by
    rcases h.keys.2 with ⟨e, e2⟩ | ⟨g, c2, cur, e, e1, e2, e3, e4, e5, e6⟩
    · omega
    · simp only [Value.slice.injEq] at e; omega
  have eI : (objT fs).items.length = fs.length := by show ((objS fs).map (·.2)).length = _; rw [List.length_map, hl]
  have eK : (objT fs).keys.length = fs.length := by show ((objS fs).map fun f => bT f.1).length = _; rw [List.length_map, hl]
  refine ⟨io, ic, ko, kc, ?_, by show ByteArray.empty.size ≤ _; decide, by show ByteArray.empty.size ≤ _; decide, by omega, by omega, by omega, by omega, ?_, ?_, ?_⟩
  · rw [eI, eK]; rfl
  · intro x hx
    obtain ⟨f, hf, rfl⟩ := List.mem_map.1 hx
    have := hkl f ((objS_perm fs).mem_iff.1 hf)
    show f.1.toArray.size ≤ _
    simpa using this
  · intro h0
    rcases h.keys.2 with ⟨e, e2⟩ | ⟨g, c2, cur, e, e1, e2, _⟩
    · omega
    · simp only [Value.slice.injEq] at e
      obtain ⟨rfl, _, rfl⟩ := e
      have hgl := (Array.getElem?_eq_some_iff.1 e2).1
      refine ⟨g, 0, rfl, by omega, by omega, fun i hi => ?_⟩
      rw [Nat.zero_add, World.cell?_of_block (a := ⟨g, i, none⟩) (hs g (by omega) hgl (by omega)), own_cellAt h.keys (by omega)]
      have hi' : i < fs.length := by omega
      obtain ⟨f, hf, h5, h6⟩ := mem_objS hi'
      unfold kyR
      rw [List.getElem?_map, List.getElem?_range hi']
      show some (Value.string ⟨(kyO fs i).toArray⟩) = some (.string (((objS fs).map fun f => bT f.1).getD i .empty))
      rw [h6]
      simp [List.getD, h5, bT]
  · intro h0
    rcases h.items.2 with ⟨e, e2⟩ | ⟨g, c2, cur, e, e1, e2, _⟩
    · omega
    · simp only [Value.slice.injEq] at e
      obtain ⟨rfl, _, rfl⟩ := e
      have hgl := (Array.getElem?_eq_some_iff.1 e2).1
      refine ⟨g, 0, rfl, by omega, by omega, fun i hi => ?_⟩
      have hi' : i < fs.length := by omega
      have cc : ∀ j : Fin 5, u.cell? ⟨g, i * 5 + j.1, none⟩ = some (cV (vof (kyO fs i)) j) := fun j => by
        rw [World.cell?_of_block (a := ⟨g, i * 5 + j.1, none⟩) (hs g (by omega) hgl (by omega)), own_cellAt h.items (by have := j.2; omega)]
        exact flat_get _ _ i j hi'
      obtain ⟨f, hf, h5, h6⟩ := mem_objS hi'
      have hT := hO.trees f hf
      obtain ⟨jo, jc, kko, kkc, hv, hrest⟩ := hT
      have hT2 := hO.trees f hf
      rw [hv] at hT2
      refine ⟨_, _, _, _, _, ⟨by rw [Nat.zero_add]; exact cc 0, by rw [Nat.zero_add]; exact cc 1, by rw [Nat.zero_add]; exact cc 2, by rw [Nat.zero_add]; exact cc 3, by rw [Nat.zero_add]; exact cc 4⟩, ?_⟩
      have ei : (objT fs).items[i] = f.2 := by
        have : (objT fs).items[i]? = some f.2 := by
          show ((objS fs).map (·.2))[i]? = _
          rw [List.getElem?_map, h5]; rfl
        exact (List.getElem?_eq_some_iff.1 this).2
      rw [ei, h6, hv]
      exact InF.keepB (by omega) (fun b hb hl => (hs b hb (by omega) (by omega)).trans (h.below.block b hl)) (Nat.le_refl _) hT2
end Go.Proofs.YtfjmgccbpiolhaaGreatDoor
