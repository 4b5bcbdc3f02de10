import Derived.Test.YtihhjplbpaafiaaM29
namespace Go.Proofs.Ytihhjplbpaafiaa
open Go.RowKit Go.Sort
set_option linter.unusedVariables false
set_option linter.unusedSimpArgs false
attribute [local go_sem] Oper.semAt_some

theorem w_bSpan (al ah bl bh : ByteArray) (w : World) (h1 : al.size ≤ 140737488355328) (h2 : ah.size ≤ 140737488355328) (h3 : bl.size ≤ 140737488355328) (h4 : bh.size ≤ 140737488355328) :
    Calls Try.prog 70 #[.agg #[.string al, .string ah], .agg #[.string bl, .string bh]] w fun e w' =>
      e = .returned (.bool (abv al ah || ((bl.toList.isEmpty || (!al.toList.isEmpty && !abv bl al)) && (bh.toList.isEmpty || (!ah.toList.isEmpty && !abv ah bh))))) ∧ Below w.heap.size w w' :=
  bspan_v al ah bl bh w _ _ _ (Hid.mk fun u => w_above al ah u h1 h2) (Hid.mk fun u => w_above bl al u h3 h1) (Hid.mk fun u => w_above ah bh u h2 h4)

theorem w_rSpan (al ah bl bh : ByteArray) (w : World) (h1 : al.size ≤ 140737488355328) (h2 : ah.size ≤ 140737488355328) (h3 : bl.size ≤ 140737488355328) (h4 : bh.size ≤ 140737488355328) (b1 : bdB al = true) (b2 : bdB ah = true) (b3 : bdB bl = true) (b4 : bdB bh = true) :
    Calls Try.prog 20 #[.agg #[.string al, .string ah], .agg #[.string bl, .string bh]] w fun e w' => e = .returned (.bool (inS al ah bl bh)) ∧ Below w.heap.size w w' :=
  rspan_v al ah bl bh w _ _ _ (Hid.mk fun u => hollow_v al ah u _ (Hid.mk fun e1 e2 u => w_Numbers al ah u (bd_formed b1 e1) (bd_formed b2 e2) h1 h2)) (Hid.mk fun e1 e2 u => w_Numbers al bl u (bd_formed b1 e2) (bd_formed b3 e1) h1 h3) (Hid.mk fun e1 e2 u => w_Numbers ah bh u (bd_formed b2 e2) (bd_formed b4 e1) h2 h4)

theorem w_InSpan (n bl bh : ByteArray) (w : World) (h0 : n.size ≤ 140737488355328) (h3 : bl.size ≤ 140737488355328) (h4 : bh.size ≤ 140737488355328) (hn : Pl.formed n.data.toList = true) (b3 : bdB bl = true) (b4 : bdB bh = true) :
    Calls Try.prog 29 #[.string n, .agg #[.string bl, .string bh]] w fun e w' => e = .returned (.bool (hasS n bl bh)) ∧ Below w.heap.size w w' :=
  inspan_v n bl bh w _ _ (Hid.mk fun e1 u => w_Numbers n bl u hn (bd_formed b3 e1) h0 h3) (Hid.mk fun e1 u => w_Numbers n bh u hn (bd_formed b4 e1) h0 h4)

theorem w_k1 (w : World) : Calls Try.prog 70 #[.agg #[.string ⟨#[51]⟩, .string ⟨#[53]⟩], .agg #[.string ⟨#[]⟩, .string ⟨#[53]⟩]] w fun e w' => e = .returned (.bool true) ∧ Below w.heap.size w w' :=
  (w_bSpan ⟨#[51]⟩ ⟨#[53]⟩ ⟨#[]⟩ ⟨#[53]⟩ w (by decide) (by decide) (by decide) (by decide)).mono fun e w' ⟨he, hb⟩ => ⟨he.trans (congrArg (fun b => Ending.returned (Value.bool b)) (by decide +kernel)), hb⟩
theorem w_k2 (w : World) : Calls Try.prog 70 #[.agg #[.string ⟨#[]⟩, .string ⟨#[]⟩], .agg #[.string ⟨#[]⟩, .string ⟨#[53]⟩]] w fun e w' => e = .returned (.bool false) ∧ Below w.heap.size w w' :=
  (w_bSpan ⟨#[]⟩ ⟨#[]⟩ ⟨#[]⟩ ⟨#[53]⟩ w (by decide) (by decide) (by decide) (by decide)).mono fun e w' ⟨he, hb⟩ => ⟨he.trans (congrArg (fun b => Ending.returned (Value.bool b)) (by decide +kernel)), hb⟩
end Go.Proofs.Ytihhjplbpaafiaa
