import PyProof.Rows.All
import Wide.All
import OpenK.AllK
import Wide.FinOn
import HandS.ForMost
import HandS.IsInst
import HandS.EndBits
import HandS.Wide
import HandS.WideBits
import HandS.TupAny
import HandS.Codes
import HandS.Defaults
import HandS.ForExc
import HandS.TryMany
import HandS.ExcIs
import HandS.TryElse
import HandS.DictComp
import HandS.Walk
import HandS.NoneIn
import HandS.TupLe
import KE.SortData
import KE.DataMinMax
import KE.DataCmp
import PySem.Challenge.RW_majordomo_k70_the_chosen_node
set_option Elab.async false
set_option linter.all false
set_option maxRecDepth 100000
set_option maxHeartbeats 4000000

namespace My
open PySem PySem.Spec PyProof.Rows L2
/-! own words: tests, heaps, items -/
theorem ifd {p A B : Prop} [Decidable p] (h1 : p → A) (h2 : ¬ p → B) : if decide p = true then A else B := by
  by_cases h : p
  · rw [decide_eq_true h]; exact (if_pos rfl).mpr (h1 h)
  · rw [decide_eq_false h]; exact (if_neg Bool.false_ne_true).mpr (h2 h)
theorem ifn {p A B : Prop} [Decidable p] (h1 : ¬ p → A) (h2 : p → B) : if (!decide p) = true then A else B := by
  by_cases h : p
  · rw [decide_eq_true h]; exact (if_neg Bool.false_ne_true).mpr (h2 h)
  · rw [decide_eq_false h]; exact (if_pos rfl).mpr (h1 h)
theorem ift {p A B : Prop} [Decidable p] (h : p) (h1 : A) : if decide p = true then A else B := by
  rw [decide_eq_true h]; exact (if_pos rfl).mpr h1
theorem iff0 {p A B : Prop} [Decidable p] (h : ¬ p) (h1 : B) : if decide p = true then A else B := by
  rw [decide_eq_false h]; exact (if_neg Bool.false_ne_true).mpr h1
theorem ifnt {p A B : Prop} [Decidable p] (h : p) (h1 : B) : if (!decide p) = true then A else B := by
  rw [decide_eq_true h]; exact (if_neg Bool.false_ne_true).mpr h1
theorem ifbt {b : Bool} {A B : Prop} (h : b = true) (h1 : A) : if b = true then A else B := (if_pos h).mpr h1
theorem ifbf {b : Bool} {A B : Prop} (h : b = false) (h1 : B) : if b = true then A else B := by rw [h]; exact h1
theorem ifb2 {b : Bool} {A B : Prop} (h1 : b = true → A) (h2 : b = false → B) : if b = true then A else B := by
  cases b with
  | true => exact h1 rfl
  | false => exact h2 rfl
theorem same_upd {H : Hp} {p : Addr} {o : HO} (h : H p = none) : Same H (upd H p o) := fun b x e => by
  rw [upd_ne (ne_of_none e h)]
  exact e
theorem same_put {H H' : Hp} {p : Addr} {o : HO} (e : Same H H') (h : H p = none) : Same H (upd H' p o) := fun b x q => by
  rw [upd_ne (ne_of_none q h)]
  exact e b x q
theorem sqt_same {K : PySem.W.Frag} {H H' : Hp} {a : Addr} {xs : List V} (e : Same H H') (h : SqT K H a xs) : SqT K H' a xs := by
  rcases h with (h | ⟨o, h⟩) | h
  · exact .inl (.inl (e _ _ h))
  · exact .inl (.inr ⟨o, e _ _ h⟩)
  · exact .inr h
theorem sql {K : PySem.W.Frag} {H : Hp} {a : Addr} {xs : List V} (h : H a = some (.lst xs)) : SqL K H a xs := .inl (.inl h)
theorem sqt {K : PySem.W.Frag} {H : Hp} {a : Addr} {xs : List V} (h : H a = some (.tup xs)) : SqT K H a xs := .inl (.inl h)
theorem sz {n : Nat} (h : n ≤ 100000) : n ≤ sizeLine := Nat.le_trans h (by decide)
theorem szl {n : Nat} (h : n ≤ 100000) : n < sizeLine := Nat.lt_of_le_of_lt h (by decide)
theorem map_at {α : Type} {f : α → V} {xs : List α} {i : Nat} {y : V} (h : (xs.map f)[i]? = some y) : ∃ x, xs[i]? = some x ∧ y = f x := by
  rw [List.getElem?_map] at h
  cases e : xs[i]? with
  | none => rw [e] at h; cases h
  | some x => rw [e] at h; exact ⟨x, rfl, (Option.some.inj h).symm⟩
theorem at_map {α : Type} {f : α → V} {xs : List α} {i : Nat} {x : α} (h : xs[i]? = some x) : atI (xs.map f) (i : Int) = some (f x) := atI_nat (by rw [List.getElem?_map, h]; rfl)
theorem take_more {α : Type} {l : List α} {i : Nat} {x : α} (h : l[i]? = some x) : l.take (i + 1) = l.take i ++ [x] := by
  rw [List.take_add_one, h]; rfl
/-! deep data stands as long as what was tracked stands -/
mutual
theorem dp_same {K : PySem.W.Frag} {H H' : Hp} (e : Same H H') : ∀ (d : PyData) {v : V}, Dp K H v d → Dp K H' v d
  | _, _, .non => .non
  | _, _, .bl b => .bl b
  | _, _, .int i => .int i
  | _, _, .str x => .str x
  | .list ds, _, .lst h a => .lst (e.seq h) (dpa_same e ds a)
  | .tuple ds, _, .tup h a => .tup (sqt_same e h) (dpa_same e ds a)
theorem dpa_same {K : PySem.W.Frag} {H H' : Hp} (e : Same H H') : ∀ (ds : List PyData) {vs : List V}, DpAll K H vs ds → DpAll K H' vs ds
  | [], _, .nil => .nil
  | d :: ds, _, .cons h a => .cons (dp_same e d h) (dpa_same e ds a)
end
theorem dpa_len {K : PySem.W.Frag} {H : Hp} : ∀ {vs : List V} {ds : List PyData}, DpAll K H vs ds → vs.length = ds.length
  | _, _, .nil => rfl
  | _, _, .cons _ a => by rw [List.length_cons, List.length_cons, dpa_len a]
theorem dpa_at {K : PySem.W.Frag} {H : Hp} : ∀ {vs : List V} {ds : List PyData} {i : Nat} {v : V}, DpAll K H vs ds → vs[i]? = some v → ∃ d, ds[i]? = some d ∧ Dp K H v d
  | _, _, _, _, .nil, h => by simp at h
  | _, _, 0, _, .cons h _, e => ⟨_, rfl, by have := Option.some.inj e; subst this; exact h⟩
  | _, _, i + 1, _, .cons _ a, e => dpa_at (i := i) a (by simpa using e)
theorem dpa_app {K : PySem.W.Frag} {H : Hp} : ∀ {vs ws : List V} {ds es : List PyData}, DpAll K H vs ds → DpAll K H ws es → DpAll K H (vs ++ ws) (ds ++ es)
  | _, _, _, _, .nil, b => b
  | _, _, _, _, .cons h a, b => .cons h (dpa_app a b)
theorem eqv_self {d : PyData} (h : SeqAt.shaped d = true) : PyData.eqv d d = true := SeqAt.eqv_refl d (SeqAt.canLay_of_shaped h)
/-! data that may be compared -/
theorem layAll : ∀ {ds : List PyData}, (∀ d ∈ ds, d.canLay0 = true) → PyData.canLayAll0 ds = true
  | [], _ => rfl
  | d :: ds, h => by
    rw [PyData.canLayAll0, h d List.mem_cons_self, layAll fun e he => h e (List.mem_cons_of_mem _ he)]; rfl
theorem depAll {n : Nat} : ∀ {ds : List PyData}, (∀ d ∈ ds, d.depth ≤ n) → PyData.depthAll ds ≤ n
  | [], _ => Nat.zero_le _
  | d :: ds, h => by
    have h1 := h d List.mem_cons_self
    have h2 := depAll (ds := ds) fun e he => h e (List.mem_cons_of_mem _ he)
    simp only [PyData.depthAll]
    omega
/-- plain data of at most this depth -/
def Flat (n : Nat) (d : PyData) : Prop := d.canLay0 = true ∧ d.depth ≤ n
theorem flat_list {n : Nat} {ds : List PyData} (h : ∀ d ∈ ds, Flat n d) : Flat (n + 1) (.list ds) :=
  ⟨by rw [PyData.canLay0]; exact layAll fun d hd => (h d hd).1, by have := depAll (n := n) fun d hd => (h d hd).2; simp only [PyData.depth]; omega⟩
theorem flat_tup {n : Nat} {ds : List PyData} (h : ∀ d ∈ ds, Flat n d) : Flat (n + 1) (.tuple ds) :=
  ⟨by rw [PyData.canLay0]; exact layAll fun d hd => (h d hd).1, by have := depAll (n := n) fun d hd => (h d hd).2; simp only [PyData.depth]; omega⟩
theorem flat_int (n : Nat) (i : Int) : Flat n (.int i) := ⟨rfl, by simp [PyData.depth]⟩
theorem flat_str (n : Nat) (x : Str) (h : (PyData.str x).canLay0 = true := by decide +kernel) : Flat n (.str x) := ⟨h, by simp [PyData.depth]⟩
theorem flat_bl (n : Nat) (b : Bool) : Flat n (.bool b) := ⟨rfl, by simp [PyData.depth]⟩
theorem flat_non (n : Nat) : Flat n .none := ⟨rfl, by simp [PyData.depth]⟩
theorem Flat.mono {n m : Nat} {d : PyData} (h : Flat n d) (hm : n ≤ m) : Flat m d := ⟨h.1, Nat.le_trans h.2 hm⟩
theorem Flat.sh {n : Nat} {d : PyData} (h : Flat n d) (hn : n ≤ 64) : SeqAt.shaped d = true := by
  show (d.canLay0 && decide (d.depth ≤ 64)) = true
  rw [Bool.and_eq_true]
  exact ⟨h.1, decide_eq_true (Nat.le_trans h.2 hn)⟩
theorem tyx_t {K : PySem.W.Frag} {H : Hp} {a : Addr} {xs : List V} (h : SqT K H a xs) : TyX K H (.ref a) (.type "tuple") := by
  rcases h with (h | ⟨o, h⟩) | ⟨o, its, n, h, hc, _⟩
  · exact .base (.tup h)
  · exact .fTuple h
  · exact .kTuple h hc
theorem tyx_l {K : PySem.W.Frag} {H : Hp} {a : Addr} {xs : List V} (h : SqL K H a xs) : TyX K H (.ref a) (.type "list") := by
  rcases h with (h | ⟨o, h⟩) | ⟨o, its, n, h, hc, _⟩
  · exact .base (.lst h)
  · exact .base (.frz h)
  · exact .kList h hc
theorem same_both {G H : Hp} {t : Addr} {x : HO} (e : Same G H) : Same (upd G t x) (upd H t x) := fun b o h => by
  by_cases hb : b = t
  · subst hb; rw [upd_same] at h ⊢; exact h
  · rw [upd_ne hb] at h ⊢; exact e b o h
theorem set_self {α : Type} : ∀ {l : List α} {i : Nat} {x : α}, l[i]? = some x → l.set i x = l
  | [], i, x, h => by simp at h
  | a :: l, 0, x, h => by
    have e : a = x := Option.some.inj h
    subst e
    rfl
  | a :: l, i + 1, x, h => by
    show a :: l.set i x = a :: l
    rw [set_self (by simpa using h)]
theorem ixn {n j : Nat} {i : Int} (hi : i = (j : Int)) (hj : j < n) : ixN n i = some j := by
  unfold ixN
  rw [if_pos (by omega), if_pos (by omega)]
  congr 1
  omega
/-! shifts and masks in place -/
section
variable {X : Cx}
theorem ip_shr : PIp X .RShift (fun x y H Q => ∃ (i : Int) (k : Nat), x = .int i ∧ y = .int (k : Int) ∧ Q (.int (i / 2 ^ k)) H) := by
  intro pins s σ H x y v u Q I r1 r2 h
  obtain ⟨i, k, e1, e2, q⟩ := h
  subst e1; subst e2
  obtain ⟨t, rfl⟩ := r1
  obtain ⟨t', rfl⟩ := r2
  refine irshift_int (Int.natCast_nonneg k) ⟨.int _, H, I.tok _, ⟨_, rfl⟩, ?_⟩
  rw [Int.toNat_natCast, Int.fdiv_eq_ediv_of_nonneg _ (Int.le_of_lt (Int.pow_pos (by decide)))]
  exact q
theorem ip_or : PIp X .BitOr (fun x y H Q => ∃ (r a : Int) (k : Nat), x = .int r ∧ y = .int (a * 2 ^ k) ∧ (0 ≤ a ∧ 0 ≤ r ∧ r < 2 ^ k) ∧ Q (.int (r + a * 2 ^ k)) H) := by
  intro pins s σ H x y v u Q I r1 r2 h
  obtain ⟨r, a, k, e1, e2, ⟨h0, h1, h2⟩, q⟩ := h
  subst e1; subst e2
  obtain ⟨t, rfl⟩ := r1
  obtain ⟨t', rfl⟩ := r2
  refine ior_int ⟨.int _, H, I.tok _, ⟨_, rfl⟩, ?_⟩
  have e : Builtin.bitOr r (a * 2 ^ k) = r + a * 2 ^ k := by
    have hp : (0 : Int) ≤ a * 2 ^ k := Int.mul_nonneg h0 (Int.le_of_lt (Int.pow_pos (by decide)))
    rw [bitOr_nn h1 hp, Nat.or_comm, ← bitOr_nn hp h1, or_low h0 h1 h2, Int.add_comm]
  rw [e]
  exact q
end
theorem bits_small : ∀ n : Nat, n < 128 → Builtin.Int.intBits (n : Int) ≤ 8 := by decide +kernel
/-- isinstance(e, c) of the error that a suite holds, its class known by the reading -/
theorem call_isE1 {X : Cx} {a D : Addr} {oe : Obj} {cls : Value} {d : Option Addr} {pn : List (Addr × Obj)} (C : ExcC X.K D) (hz : Zc cls d oe) (hf : ∃ vs, oe.data = .fields vs) :
    CallR (X.suite a ((a, oe) :: pn)) (.builtin "isinstance") (fun xs H Q => cls = .ref D ∧ d = none ∧ rIsE X.K D a xs H Q) := fun pins s σ H xs us Q I r h => by
  obtain ⟨h1, h2, h⟩ := h
  subst h1
  subst h2
  exact call_isE C hz hf pins s σ H xs us Q I r h
/-! slices -/
theorem sIx_le {n d : Nat} {i : Nat} : HT.sIx n d (some (i : Int)) = min i n := HT.sIx_nat n d i
theorem cut0n (xs : List V) (j : Nat) : cutV xs none (some (j : Int)) = xs.take j := by
  unfold cutV
  rw [sIx_le, HT.sIx_none, List.drop_zero, Nat.sub_zero]
  exact (List.take_eq_take_min).symm
theorem cutnn (xs : List V) (i j : Nat) : cutV xs (some (i : Int)) (some (j : Int)) = (xs.drop i).take (j - i) := by
  unfold cutV
  rw [sIx_le, sIx_le]
  by_cases hi : i ≤ xs.length
  · rw [Nat.min_eq_left hi]
    by_cases hj : j ≤ xs.length
    · rw [Nat.min_eq_left hj]
    · rw [Nat.min_eq_right (by omega), List.take_of_length_le (by rw [List.length_drop]; omega), List.take_of_length_le (by rw [List.length_drop]; omega)]
  · have e : min i xs.length = xs.length := by omega
    rw [e, List.drop_of_length_le (Nat.le_refl _), List.drop_of_length_le (show xs.length ≤ i by omega), List.take_nil, List.take_nil]
theorem cut_ints (ns : List Int) {i j : Nat} {a b : Int} (ha : a = i) (hb : b = j) : cutV (ns.map V.int) (some a) (some b) = ((ns.drop i).take (j - i)).map V.int := by
  rw [ha, hb, cutnn, ← List.map_drop, ← List.map_take]
theorem rep_ints (ns : List Int) (k : Nat) : (List.replicate k (ns.map V.int)).flatten = (List.replicate k ns).flatten.map V.int := by
  rw [List.map_flatten, List.map_replicate]
/-- [e for x in a slice], e changes nothing -/
theorem lc_cut {K : PySem.W.Frag} {wi : TI} {te : TE} {s : Nat} {σ : L2.St} {H : Hp} {Q : VK} (xs : List V) (f : V → V)
    (hwi : ∀ R : It → Hp → Prop, (∀ p, H p = none → R (Itl K p) (upd H p (.lst xs))) → wi σ H R) (hlen : xs.length ≤ 90000)
    (hw : ∀ x, wipe ((wipe σ [s]).set s (some x)) [s] = wipe σ [s])
    (he : ∀ (i : Nat) (x : V) (G : Hp) (Q' : VK), xs[i]? = some x → Same H G → Q' (f x) G → te ((wipe σ [s]).set s (some x)) G Q')
    (k : ∀ D H', H D = none → Same H H' → H' D = some (.lst (xs.map f)) → Q (.ref D) H') : tLc wi (gName s) tYes te [s] σ H Q := by
  refine hwi _ fun p hp D hD => ?_
  have nD : D ≠ p := fun z => by rw [z, upd_same] at hD; cases hD
  have hD0 : H D = none := by rw [upd_ne nD] at hD; exact hD
  refine lc_list (K := K) (a := p) (xs := xs) (fun i H' => Same H H' ∧ H' p = some (.lst xs) ∧ H' D = some (.lst ((xs.take i).map f)))
    ⟨(same_upd hp).trans (same_upd hD), by rw [upd_ne nD.symm, upd_same], by rw [upd_same]; rfl⟩ (fun i H' _ h => sql h.2.1) (fun i x G hx hG => ?_) (fun G hG => ?_)
  · refine ⟨hw x, ?_⟩
    refine he i x G _ hx hG.1 ⟨_, hG.2.2, szl (by rw [List.length_map, List.length_take]; omega), same_put hG.1 hD0, by rw [upd_ne nD.symm]; exact hG.2.1, ?_⟩
    rw [upd_same, take_more hx, List.map_append]
    rfl
  · refine k D G hD0 hG.1 ?_
    rw [List.take_length] at hG
    exact hG.2.2
/-- lists of ints as data -/
theorem dpa_ints {K : PySem.W.Frag} {H : Hp} : ∀ ns : List Int, DpAll K H (ns.map V.int) (ns.map PyData.int)
  | [] => .nil
  | n :: ns => .cons (.int n) (dpa_ints ns)
theorem dp_ints {K : PySem.W.Frag} {H : Hp} {a : Addr} {ns : List Int} (h : SqL K H a (ns.map V.int)) : Dp K H (.ref a) (.list (ns.map PyData.int)) := .lst h (dpa_ints ns)
theorem flat_ints (ns : List Int) : Flat 1 (.list (ns.map PyData.int)) := flat_list (n := 0) fun d hd => by
  obtain ⟨i, _, rfl⟩ := List.mem_map.mp hd
  exact flat_int _ _
theorem flat_tints (ns : List Int) : Flat 1 (.tuple (ns.map PyData.int)) := flat_tup (n := 0) fun d hd => by
  obtain ⟨i, _, rfl⟩ := List.mem_map.mp hd
  exact flat_int _ _
theorem eqvAll_ints : ∀ xs ys : List Int, PyData.eqvAll (xs.map .int) (ys.map .int) = decide (xs = ys)
  | [], [] => rfl
  | [], _ :: _ => rfl
  | _ :: _, [] => rfl
  | x :: xs, y :: ys => by
    show ((x == y) && PyData.eqvAll (xs.map .int) (ys.map .int)) = _
    rw [eqvAll_ints xs ys, Bool.eq_iff_iff]
    simp
theorem eqv_ints (xs ys : List Int) : PyData.eqv (.list (xs.map .int)) (.list (ys.map .int)) = decide (xs = ys) := eqvAll_ints xs ys
theorem eqv_tints (xs ys : List Int) : PyData.eqv (.tuple (xs.map .int)) (.tuple (ys.map .int)) = decide (xs = ys) := eqvAll_ints xs ys
/-- a def with defaults that lets nothing out -/
theorem okD {P : Program} {w : World} {K : PySem.W.Frag} {mg : Str → Option Value} {base : Heap} {x qual : Str} {params : Arguments} {body : List Stmt} {scope : Scope} {dvs : List V} {kws : List (Str × V)} {f : Addr} {fd : FuncData} {N ps : List Str} {k : Nat} {sp : Sp}
    (F : FunD K x qual params body scope dvs kws f fd) (S : FnScope N ps scope) (len : ∀ vs H Q E, sp vs H Q E → vs.length = ps.length)
    (hb : ∀ (cdv : Value) (A : Around) (outer : List Env) (s : Shared) (H : Hp) (vs : List V) (Q : VK) (E : XK), Room k (A.deeper (envOfC qual scope s.heap.objs.size f cdv)) → sp vs H Q E →
      ∃ t, PSs (cxOf CX0 P w K mg base N qual scope f cdv A outer s H E).nox body t ∧ t { nx := fun _ H' => Q .non H', rt := Q } (start N vs) H) : FnOk P w K mg base CX0 (k + 1) f fd ps sp :=
  F.ok S len fun cdv A outer s H vs Q E hr h => by
    obtain ⟨t, h1, q⟩ := hb cdv A outer s H vs Q E hr h
    exact ⟨t, h1.nox, q⟩
/-! what an expression gives, whatever stands besides -/
def EI (te : TE) (σ : L2.St) (H : Hp) (v : V) : Prop := ∀ G, Same H G → ∀ Q : VK, Q v G → te σ G Q
def EA (ta : TA) (σ : L2.St) (H : Hp) (vs : List V) : Prop := ∀ G, Same H G → ∀ Q : List V → Hp → Prop, Q vs G → ta σ G Q
/-- a list, new or old -/
def EL (te : TE) (σ : L2.St) (H : Hp) (xs : List V) : Prop := ∀ G, Same H G → ∀ Q : VK, (∀ p G', Same G G' → G' p = some (.lst xs) → Q (.ref p) G') → te σ G Q
section
variable {K : PySem.W.Frag} {σ : L2.St} {H : Hp} {ta tb te : TE} {x y z v : V} {xs ys : List V}
theorem ei_var {i : Nat} (h : σ[i]? = some (some v)) : EI (tVar i) σ H v := fun _ _ _ q => ⟨v, h, q⟩
theorem ei_c : EI (tC v) σ H v := fun _ _ _ q => q
theorem ei_op {r : R2} (ha : EI ta σ H x) (hb : EI tb σ H y) (hr : ∀ G, Same H G → ∀ Q : VK, Q z G → r x y G Q) : EI (tOp r ta tb) σ H z := fun G s Q q => ha G s _ (hb G s _ (hr G s Q q))
theorem ei_i0 {g : Int → Int → V} {i j : Int} (ha : EI ta σ H (.int i)) (hb : EI tb σ H (.int j)) : EI (tOp (rI0 g) ta tb) σ H (g i j) := ei_op ha hb fun _ _ _ q => ⟨i, j, rfl, rfl, q⟩
theorem ei_ic {C : Int → Int → Prop} {g : Int → Int → V} {i j : Int} (ha : EI ta σ H (.int i)) (hb : EI tb σ H (.int j)) (hc : C i j) : EI (tOp (rI C g) ta tb) σ H (g i j) := ei_op ha hb fun _ _ _ q => ⟨i, j, rfl, rfl, hc, q⟩
theorem ea_nil : EA tNil σ H [] := fun _ _ _ q => q
theorem ea_cons {tr : TA} {vs : List V} (h : EI ta σ H x) (g : EA tr σ H vs) : EA (tCons ta tr) σ H (x :: vs) := fun G s _ q => h G s _ (g G s _ q)
theorem ei_cb {r : List V → Hp → VK → Prop} {tr : TA} {vs : List V} (ha : EA tr σ H vs) (hr : ∀ G, Same H G → ∀ Q : VK, Q z G → r vs G Q) : EI (tCB r tr) σ H z := fun G s Q q => ha G s _ (hr G s Q q)
/-- len of a list, list(..) of a list or a tuple, as they are read -/
def rLen (K : PySem.W.Frag) : List V → Hp → VK → Prop := fun xs H Q => ∃ p ys, xs = [.ref p] ∧ (SqL K H p ys ∨ SqT K H p ys) ∧ Q (.int ys.length) H
def rLst (K : PySem.W.Frag) : List V → Hp → VK → Prop := fun xs H Q => ∃ p ys, xs = [.ref p] ∧ (SqL K H p ys ∨ SqT K H p ys) ∧ ∀ l, H l = none → Q (.ref l) (upd H l (.lst ys))
def rTup (K : PySem.W.Frag) : List V → Hp → VK → Prop := fun xs H Q => ∃ p ys, xs = [.ref p] ∧ ((SqL K H p ys ∧ ∀ l, H l = none → Q (.ref l) (upd H l (.tup ys))) ∨ (SqT K H p ys ∧ Q (.ref p) H))
theorem callK_tuple {X : Cx} (h : X.K = K) : CallR X (.type "tuple") (rTup K) := by subst h; exact call_tuple_of
theorem callK_list {X : Cx} (h : X.K = K) : CallR X (.type "list") (rLst K) := by subst h; exact call_list_of
theorem opK_catA {X : Cx} (h : X.K = K) : OpR X (binaryOp .Add) (rCatA K) := by subst h; exact op_catA
theorem ixK_list {X : Cx} (h : X.K = K) : IxR X (rIxL K) := by subst h; exact ix_list
theorem ixK_tup {X : Cx} (h : X.K = K) : IxR X (rIxT K) := by subst h; exact ix_tup
theorem pe_fldK {X : Cx} {e : Expr} {f : Str} {pos : Pos} {ta : TE} (h : X.K = K) (he : PE X e ta) (hb : attributeBase e f X.env (eval e X.env) = eval e X.env) : PE X (.Attribute e f pos) (tFld K ta f) := by subst h; exact pe_fld he hb
theorem callK_len {X : Cx} (h : X.K = K) : CallR X (.builtin "len") (rLen K) := by subst h; exact call_len_seq
theorem ei_lenL {i : Nat} {p : Addr} (h : σ[i]? = some (some (.ref p))) (e : SqL K H p xs) : EI (tCB (rLen K) (tCons (tVar i) tNil)) σ H (.int (xs.length : Int)) := ei_cb (ea_cons (ei_var h) ea_nil) fun _ s _ q => ⟨p, xs, rfl, .inl (s.seq e), q⟩
theorem ei_lenT {i : Nat} {p : Addr} (h : σ[i]? = some (some (.ref p))) (e : SqT K H p xs) : EI (tCB (rLen K) (tCons (tVar i) tNil)) σ H (.int (xs.length : Int)) := ei_cb (ea_cons (ei_var h) ea_nil) fun _ s _ q => ⟨p, xs, rfl, .inr (sqt_same s e), q⟩
theorem ei_fld {i : Nat} {p C dx : Addr} {fs : List (Str × V)} {f : Str} (h : σ[i]? = some (some (.ref p))) (hp : H p = some (.ins C dx fs)) (c : Cls K C) (n : NoAttr K C f) (l : fs.lookup f = some v) : EI (tFld K (tVar i) f) σ H v := fun _ s _ q => ⟨.ref p, h, p, C, dx, fs, v, rfl, s _ _ hp, c, n, l, q⟩
theorem ei_din {td : TE} {d : Addr} {kvs : List (Key × V)} {k : Key} (hy : EI te σ H (kV k)) (hd : EI td σ H (.ref d)) (e : H d = some (.dK kvs)) : EI (tDIn te td) σ H (.bl (valV kvs k).isSome) := fun G s _ q => hy G s _ (hd G s _ ⟨d, _, rfl, DGet.k (s _ _ e), q⟩)
theorem ei_dnotin {td : TE} {d : Addr} {kvs : List (Key × V)} {k : Key} (hy : EI te σ H (kV k)) (hd : EI td σ H (.ref d)) (e : H d = some (.dK kvs)) : EI (tDNotIn te td) σ H (.bl (!(valV kvs k).isSome)) := fun G s _ q => hy G s _ (hd G s _ ⟨d, _, rfl, DGet.k (s _ _ e), q⟩)
theorem ei_dget {td : TE} {d : Addr} {kvs : List (Key × V)} {k : Key} (hy : EI te σ H (kV k)) (hd : EI td σ H (.ref d)) (e : H d = some (.dK kvs)) (hv : valV kvs k = some v) : EI (tDGet td te) σ H v := fun G s _ q => hd G s _ (hy G s _ ⟨d, v, rfl, by rw [← hv]; exact DGet.k (s _ _ e), q⟩)
theorem ei_ixL {p : Addr} {j : Int} (ha : EI ta σ H (.ref p)) (hi : EI tb σ H (.int j)) (e : SqL K H p xs) (h : atI xs j = some v) : EI (tOp (rIxL K) ta tb) σ H v := ei_op ha hi fun _ s _ q => ⟨p, xs, j, v, rfl, rfl, s.seq e, h, q⟩
theorem ei_ixT {p : Addr} {j : Int} (ha : EI ta σ H (.ref p)) (hi : EI tb σ H (.int j)) (e : SqT K H p xs) (h : atI xs j = some v) : EI (tOp (rIxT K) ta tb) σ H v := ei_op ha hi fun _ s _ q => ⟨p, xs, j, v, rfl, rfl, sqt_same s e, h, q⟩
theorem ei_eq (ha : EI ta σ H x) (hb : EI tb σ H y) (h : scal x y = true) : EI (tOp rEq ta tb) σ H (.bl (decide (x = y))) := ei_op ha hb fun _ _ _ q => ⟨h, q⟩
theorem ei_ne (ha : EI ta σ H x) (hb : EI tb σ H y) (h : scal x y = true) : EI (tOp rNe ta tb) σ H (.bl (!decide (x = y))) := ei_op ha hb fun _ _ _ q => ⟨h, q⟩
/-- a test by its value -/
theorem tt_use {b : Bool} {Q : Bool → Hp → Prop} (h : EI te σ H (.bl b)) (k : Q b H) : tTest te σ H Q := h H (Same.refl _) _ ⟨b, rfl, k⟩
theorem tb_use {b : Bool} {Q : Bool → Hp → Prop} (h : EI te σ H (.bl b)) (k : Q b H) : tB te σ H Q := h H (Same.refl _) _ ⟨b, rfl, k⟩
theorem el_var {i : Nat} {p : Addr} (h : σ[i]? = some (some (.ref p))) (e : H p = some (.lst xs)) : EL (tVar i) σ H xs := fun G s _ q => ⟨.ref p, h, q p G (Same.refl _) (s _ _ e)⟩
/-- a new list -/
def EN (te : TE) (σ : L2.St) (H : Hp) (xs : List V) : Prop := ∀ G, Same H G → ∀ Q : VK, (∀ p G', G p = none → Same G G' → G' p = some (.lst xs) → Q (.ref p) G') → te σ G Q
theorem EN.el (h : EN te σ H xs) : EL te σ H xs := fun G s Q q => h G s Q fun p G' _ => q p G'
theorem en_lst {tr : TA} {vs : List V} (ha : EA tr σ H vs) (hl : vs.length ≤ 90000) : EN (tLst tr) σ H vs := fun G s _ q => ha G s _ ⟨sz (by omega), fun p hp => q p _ hp (same_upd hp) upd_same⟩
theorem en_cat (ha : EL ta σ H xs) (hb : EL tb σ H ys) (hl : xs.length + ys.length ≤ 90000) : EN (tOp rCat ta tb) σ H (xs ++ ys) := fun G s _ q =>
  ha G s _ fun p G1 s1 e1 => hb G1 (s.trans s1) _ fun p2 G2 s2 e2 => ⟨p, p2, xs, ys, rfl, rfl, s2 _ _ e1, e2, sz (by omega), fun p3 h3 => q p3 _ ((s1.trans s2).free h3) ((s1.trans s2).trans (same_upd h3)) upd_same⟩
theorem en_rep {k : Int} (ha : EL ta σ H xs) (hb : EI tb σ H (.int k)) (h1 : -1000000 ≤ k) (h2 : k ≤ 1000000) (hl : xs.length * k.toNat ≤ 90000) : EN (tOp rRep ta tb) σ H (List.replicate k.toNat xs).flatten := fun G s _ q =>
  ha G s _ fun p G1 s1 e1 => hb G1 (s.trans s1) _ ⟨p, k, xs, rfl, rfl, e1, by omega, by omega, sz (by omega), fun p3 h3 => q p3 _ (s1.free h3) (s1.trans (same_upd h3)) upd_same⟩
theorem el_lst {tr : TA} {vs : List V} (ha : EA tr σ H vs) (hl : vs.length ≤ 90000) : EL (tLst tr) σ H vs := (en_lst ha hl).el
theorem el_cat (ha : EL ta σ H xs) (hb : EL tb σ H ys) (hl : xs.length + ys.length ≤ 90000) : EL (tOp rCat ta tb) σ H (xs ++ ys) := (en_cat ha hb hl).el
theorem el_rep {k : Int} (ha : EL ta σ H xs) (hb : EI tb σ H (.int k)) (h1 : -1000000 ≤ k) (h2 : k ≤ 1000000) (hl : xs.length * k.toNat ≤ 90000) : EL (tOp rRep ta tb) σ H (List.replicate k.toNat xs).flatten := (en_rep ha hb h1 h2 hl).el
theorem el_cb {r : List V → Hp → VK → Prop} {tr : TA} {vs : List V} (ha : EA tr σ H vs) (hr : ∀ G, Same H G → ∀ Q : VK, (∀ p G', Same G G' → G' p = some (.lst xs) → Q (.ref p) G') → r vs G Q) : EL (tCB r tr) σ H xs := fun G s Q q => ha G s _ (hr G s Q q)
theorem el_call {sp : Sp} {dvs : List V} {E : XK} {tr : TA} {vs : List V} (ha : EA tr σ H vs) (hr : ∀ G, Same H G → ∀ Q : VK, (∀ p G', Same G G' → G' p = some (.lst xs) → Q (.ref p) G') → sp (vs ++ dvs) G Q E) : EL (tCall sp dvs E tr) σ H xs := fun G s Q q => ha G s _ (hr G s Q q)
theorem el_listL {i : Nat} {p : Addr} (h : σ[i]? = some (some (.ref p))) (e : SqL K H p xs) : EL (tCB (rLst K) (tCons (tVar i) tNil)) σ H xs := el_cb (ea_cons (ei_var h) ea_nil) fun _ s _ q => ⟨p, xs, rfl, .inl (s.seq e), fun l hl => q l _ (same_upd hl) upd_same⟩
theorem el_listT {i : Nat} {p : Addr} (h : σ[i]? = some (some (.ref p))) (e : SqT K H p xs) : EL (tCB (rLst K) (tCons (tVar i) tNil)) σ H xs := el_cb (ea_cons (ei_var h) ea_nil) fun _ s _ q => ⟨p, xs, rfl, .inr (sqt_same s e), fun l hl => q l _ (same_upd hl) upd_same⟩
/-- x = an expression that gives a list -/
theorem EL.use {Q : VK} (h : EL te σ H xs) (k : ∀ p H', Same H H' → H' p = some (.lst xs) → Q (.ref p) H') : te σ H Q := h H (Same.refl _) Q k
theorem EN.use {Q : VK} (h : EN te σ H xs) (k : ∀ p H', H p = none → Same H H' → H' p = some (.lst xs) → Q (.ref p) H') : te σ H Q := h H (Same.refl _) Q k
theorem EI.use {Q : VK} (h : EI te σ H v) (k : Q v H) : te σ H Q := h H (Same.refl _) Q k
end
/-- defaults: what is bound where keywords give the rest -/
theorem kb_one {K : PySem.W.Frag} {x qual : Str} {params : Arguments} {body : List Stmt} {scope : Scope} {dvs : List V} {f : Addr} {fd : FuncData} {ps : List Str} (F : FunD K x qual params body scope dvs [] f fd) (n : Nat) (ks : List Str) (hd : dvs ≠ [])
    (h : ∀ (T : Addr) (kV doc pm : Value) (an : Option Addr) (cdv ct : Value) (us ws its : List Value), us.length = n → ws.length = ks.length → its.length = dvs.length →
      ∃ k, bindArgs (PySem.W.fnOf x qual params body scope (.ref T) kV doc pm an cdv ct) ⟨us, ks.zip ws⟩ = seqItems? (.ref T) >>= k ∧ k (some its.toArray) = pure (ps.zip (us ++ ws))) :
    KBn K fd ps n ks (fun us ws => us ++ ws) (fun vs zs => vs ++ zs) := by
  obtain ⟨oc, od, dV, kV, doc, pm, an, cdv, ct, osl, rfl, lk, hcd, hD, hK⟩ := F.ex
  rcases hD with ⟨e, _⟩ | ⟨_, T, o, its, m, rfl, lT, oT, rT⟩
  · exact absurd e hd
  · refine ⟨fun s us ws X h1 h2 => BindsTo.of_looks fun M => ?_, fun r1 r2 => r1.append r2⟩
    obtain ⟨k, e1, e2⟩ := h T kV doc pm an cdv ct us ws its h1 h2 rT.length.symm
    rw [e1]
    exact looks_items X lT oT (.of_pure e2)
theorem andV_use {ta tb : TE} {σ : L2.St} {H : Hp} {Q : VK} {x y : Bool} (h1 : EI ta σ H (.bl x)) (h2 : x = true → ∀ Q' : VK, (∀ H', Same H H' → Q' (.bl y) H') → tb σ H Q') (k : ∀ H', Same H H' → Q (.bl (x && y)) H') : tAndV ta tb σ H Q := by
  refine h1 H (Same.refl _) _ ⟨x, rfl, ?_⟩
  cases x with
  | true => exact (if_pos rfl).mpr (h2 rfl _ k)
  | false => exact (if_neg Bool.false_ne_true).mpr (k H (Same.refl _))
/-- what is locked and let go stands as it stood -/
theorem unlock {H H' : Hp} {d : Addr} {od : Obj} {u : HO} (e : H d = some u) (s : Same (upd H d (.frz od u)) H') : Same H (upd H' d u) := fun b o h => by
  by_cases hb : b = d
  · subst hb
    rw [upd_same, ← e]
    exact h
  · rw [upd_ne hb]
    exact s b o (by rw [upd_ne hb]; exact h)
theorem take_filter {α : Type} {l : List α} {i : Nat} {x : α} (f : α → Bool) (h : l[i]? = some x) : (l.take (i + 1)).filter f = (l.take i).filter f ++ if f x then [x] else [] := by
  rw [take_more h, List.filter_append]
  cases e : f x <;> simp [e]
/-- [e for k in d if t] over the keys of a dict, t and e change nothing -/
theorem lc_keys {td te : TE} {tt : TT} {s : Nat} {σ : L2.St} {H : Hp} {Q : VK} (d : Addr) (kvs : List (Key × V)) (f : Key → Bool) (g : Key → V) (e : H d = some (.dK kvs)) (hlen : kvs.length ≤ 90000)
    (htd : ∀ od, EI td σ (upd H d (.frz od (.dK kvs))) (.ref d))
    (hw : ∀ x, wipe ((wipe σ [s]).set s (some x)) [s] = wipe σ [s])
    (ht : ∀ (od : Obj) (i : Nat) (k : Key) (v : V) (G : Hp) (Q' : Bool → Hp → Prop), kvs[i]? = some (k, v) → Same (upd H d (.frz od (.dK kvs))) G → Q' (f k) G → tt ((wipe σ [s]).set s (some (kV k))) G Q')
    (he : ∀ (od : Obj) (i : Nat) (k : Key) (v : V) (G : Hp) (Q' : VK), kvs[i]? = some (k, v) → Same (upd H d (.frz od (.dK kvs))) G → Q' (g k) G → te ((wipe σ [s]).set s (some (kV k))) G Q')
    (k : ∀ D H', H D = none → Same H H' → H' D = some (.lst ((kvs.filter fun kv => f kv.1).map fun kv => g kv.1)) → Q (.ref D) H') : tLockE (tLc (iKeys td) (gName s) tt te [s]) σ H Q := by
  refine ⟨d, _, e, trivial, fun od => htd od _ (Same.refl _) _ ⟨d, od, rfl, .inl ⟨kvs, upd_same, fun D hD => ?_⟩⟩⟩
  have nD : D ≠ d := fun z => by rw [z, upd_same] at hD; cases hD
  have hD0 : H D = none := by rw [upd_ne nD] at hD; exact hD
  refine lc_it walk_keys (fun i G => Same (upd H d (.frz od (.dK kvs))) G ∧ G D = some (.lst (((kvs.take i).filter fun kv => f kv.1).map fun kv => g kv.1)))
    ⟨same_upd hD, upd_same⟩ (fun i G _ h => h.1 _ _ upd_same) (fun i x G G' hi hG hy => ?_) (fun G hG => ?_)
  · obtain ⟨rfl, key, v, hkv, rfl⟩ := hy
    have hfl : ((kvs.take i).filter fun kv => f kv.1).length ≤ 90000 := Nat.le_trans (List.length_filter_le _ _) (by rw [List.length_take]; omega)
    refine ⟨hw _, ht od i key v _ _ hkv hG.1 ?_⟩
    have hts := take_filter (fun kv : Key × V => f kv.1) hkv
    cases hf : f key with
    | true =>
      refine (if_pos rfl).mpr (he od i key v _ _ hkv hG.1 ⟨_, hG.2, szl (by rw [List.length_map]; omega), same_put hG.1 hD, ?_⟩)
      rw [upd_same, hts, List.map_append]
      simp only [hf, if_true]
      rfl
    | false =>
      refine (if_neg Bool.false_ne_true).mpr ⟨hG.1, ?_⟩
      rw [hts]
      simp only [hf, Bool.false_eq_true, if_false, List.append_nil]
      exact hG.2
  · rw [List.take_length] at hG
    refine ⟨hG.1 _ _ upd_same, k D _ hD0 (unlock e hG.1) ?_⟩
    rw [upd_ne nD]
    exact hG.2
theorem put_fresh {kvs : List (Key × V)} {k : Key} {v : V} (h : ∀ kv ∈ kvs, kv.1 ≠ k) : putK kvs k v = kvs ++ [(k, v)] := by
  unfold putK
  rw [if_neg]
  intro z
  obtain ⟨kv, hm, hk⟩ := List.any_eq_true.mp z
  exact h kv hm (of_decide_eq_true hk)
theorem nd_ne {α β : Type} {l : List (α × β)} {i : Nat} {x : α × β} (nd : (l.map (·.1)).Nodup) (h : l[i]? = some x) : ∀ y ∈ l.take i, y.1 ≠ x.1 := fun y hy z => by
  obtain ⟨j, hj, rfl⟩ := List.getElem_of_mem hy
  rw [List.length_take] at hj
  rw [List.getElem_take] at z
  obtain ⟨hi, rfl⟩ := List.getElem?_eq_some_iff.mp h
  have e1 : (l.map (·.1))[j]? = some l[i].1 := by rw [List.getElem?_map, List.getElem?_eq_getElem (by omega), ← z]; rfl
  have e2 : (l.map (·.1))[i]? = some l[i].1 := by rw [List.getElem?_map, List.getElem?_eq_getElem hi]; rfl
  have := nd_ix nd e1 e2
  omega
/-- {k: e for k in d if t} over the keys of a dict -/
theorem dc_keys {td tv : TE} {tt : TT} {s : Nat} {σ : L2.St} {H : Hp} {Q : VK} (d : Addr) (kvs : List (Key × V)) (f : Key → Bool) (g : Key × V → V) (e : H d = some (.dK kvs)) (hlen : kvs.length ≤ 90000) (nd : (kvs.map (·.1)).Nodup)
    (htd : ∀ od, EI td σ (upd H d (.frz od (.dK kvs))) (.ref d))
    (hw : ∀ x, wipe ((wipe σ [s]).set s (some x)) [s] = wipe σ [s])
    (ht : ∀ (od : Obj) (i : Nat) (k : Key) (v : V) (G : Hp) (Q' : Bool → Hp → Prop), kvs[i]? = some (k, v) → Same (upd H d (.frz od (.dK kvs))) G → Q' (f k) G → tt ((wipe σ [s]).set s (some (kV k))) G Q')
    (he : ∀ (od : Obj) (i : Nat) (k : Key) (v : V) (G : Hp) (Q' : VK), kvs[i]? = some (k, v) → f k = true → Same (upd H d (.frz od (.dK kvs))) G → Q' (g (k, v)) G → tv ((wipe σ [s]).set s (some (kV k))) G Q')
    (hn : ∀ i, (wipe σ [s]).length = i → s < i)
    (k : ∀ D H', H D = none → Same H H' → H' D = some (.dK ((kvs.filter fun kv => f kv.1).map fun kv => (kv.1, g kv))) → Q (.ref D) H') : tLockE (tDc (iKeys td) (gName s) tt (tVar s) tv [s]) σ H Q := by
  have hs : s < (wipe σ [s]).length := hn _ rfl
  refine ⟨d, _, e, trivial, fun od => htd od _ (Same.refl _) _ ⟨d, od, rfl, .inl ⟨kvs, upd_same, fun D hD => ?_⟩⟩⟩
  have nD : D ≠ d := fun z => by rw [z, upd_same] at hD; cases hD
  have hD0 : H D = none := by rw [upd_ne nD] at hD; exact hD
  let Pv : Nat → Hp → Prop := fun i G => Same (upd H d (.frz od (.dK kvs))) G ∧ G D = some (.dK (((kvs.take i).filter fun kv => f kv.1).map fun kv => (kv.1, g kv)))
  have step : ∀ i x G G', i < kvs.length → Pv i G → (G' = G ∧ ∃ k v, kvs[i]? = some (k, v) ∧ x = kV k) → gName s x (wipe σ [s]) G' fun σ2 H2 => wipe σ2 [s] = wipe σ [s] ∧ tt σ2 H2 fun b H3 =>
      if b = true then tVar s σ2 H3 fun y H4 => tv σ2 H4 fun z H5 => ∃ kvs' k', y = kV k' ∧ H5 D = some (.dK kvs') ∧ kvs'.length < sizeLine ∧ Pv (i + 1) (upd H5 D (.dK (putK kvs' k' z))) else Pv (i + 1) H3 := fun i x G G' hi hG hy => by
    obtain ⟨rfl, key, v, hkv, rfl⟩ := hy
    have hfl : ((kvs.take i).filter fun kv => f kv.1).length ≤ 90000 := Nat.le_trans (List.length_filter_le _ _) (by rw [List.length_take]; omega)
    refine ⟨hw _, ht od i key v _ _ hkv hG.1 ?_⟩
    have hts := take_filter (fun kv : Key × V => f kv.1) hkv
    cases hf : f key with
    | true =>
      refine (if_pos rfl).mpr ⟨kV key, by rw [List.getElem?_set_self hs], he od i key v _ _ hkv hf hG.1 ⟨_, key, rfl, hG.2, szl (by rw [List.length_map]; omega), same_put hG.1 hD, ?_⟩⟩
      rw [upd_same, hts, List.map_append, put_fresh]
      · simp only [hf, if_true]
        rfl
      · intro kv hm
        obtain ⟨y, hy, rfl⟩ := List.mem_map.mp hm
        exact nd_ne nd hkv y (List.mem_filter.mp hy).1
    | false =>
      refine (if_neg Bool.false_ne_true).mpr ⟨hG.1, ?_⟩
      rw [hts]
      simp only [hf, Bool.false_eq_true, if_false, List.append_nil]
      exact hG.2
  refine ⟨fun i m G => m = kvs.length - i ∧ i ≤ kvs.length ∧ Pv i G, ⟨kvs.length, by simp, Nat.zero_le _, same_upd hD, upd_same⟩, ?_⟩
  rintro i m G ⟨rfl, hi, hP⟩
  by_cases hlt : i < kvs.length
  · exact .inr ⟨⟨hP.1 _ _ upd_same, hlt⟩, Pv (i + 1), fun G' p' => ⟨kvs.length - (i + 1), by omega, rfl, hlt, p'⟩, fun x G' y => step i x G G' hlt hP y⟩
  · have ei : i = kvs.length := by omega
    subst ei
    obtain ⟨h1, h2⟩ := hP
    rw [List.take_length] at h2
    refine .inl ⟨⟨h1 _ _ upd_same, Nat.le_refl _⟩, h1 _ _ upd_same, k D _ hD0 (unlock e h1) ?_⟩
    rw [upd_ne nD]
    exact h2
/-! the same within a comprehension -/
section
variable {K : PySem.W.Frag} {X : Cx} {pos : Pos}
theorem pgK_tup {es : List Expr} {k : Nat} {t : TGs} {n : Nat} (hK : X.K = K) (hc : X.calm = true) (h : PGs X es t)
    (hn : (assignEach es X.env).length = n := by rfl) (hst : (assignEach es X.env).findIdx? (·.1) = none := by rfl) : PG X (.Tuple es k pos) (gTup K n t) := by subst hK; exact pg_tup hc h hn hst
theorem opK_in (h : X.K = K) : OpR X (compareOp .In) (rIn K false) := by subst h; exact op_in_seq
theorem opK_notIn (h : X.K = K) : OpR X (compareOp .NotIn) (rIn K true) := by subst h; exact op_notIn_seq
theorem opK_eqD (h : X.K = K) (hu : X.A.units + 64 < cLine) : OpR X (compareOp .Eq) (rEqD K) := by subst h; exact op_eqD hu
theorem opK_neD (h : X.K = K) (hu : X.A.units + 64 < cLine) : OpR X (compareOp .NotEq) (rNeD K) := by subst h; exact op_neD hu
theorem callK_isi (h : X.K = K) : CallR X (.builtin "isinstance") (rIsi K) := by subst h; exact call_isi
theorem slK_tup (h : X.K = K) : SlR X (rSlT K) := by subst h; exact sl_tup
end
end My
local macro_rules | `(tactic| walk_at "go") => `(tactic| try dsimp only [L2.gName, L2.tSeq, L2.tAsg, L2.tNext, L2.tDrop])
namespace My
open PySem PySem.Spec PyProof.Rows L2
def topS (i : Nat) : Stmt := PySem.Challenge.pw_majordomo_k70_the_chosen_node.main.body.getD i (.Pass ⟨0, 0, 0, 0⟩)
abbrev s_free_size : Stmt := (topS 3)
theorem sc_free_size : FnScope ["node_value", "assumed", "size", "used", "_"] ["node_value", "assumed"] (defScope s_free_size) := ⟨rfl, rfl, rfl, by decide +kernel, rfl, by decide +kernel, by decide +kernel⟩
abbrev s_is_open : Stmt := (topS 4)
theorem sc_is_open : FnScope ["node_value", "_", "life", "lost"] ["node_value"] (defScope s_is_open) := ⟨rfl, rfl, rfl, by decide +kernel, rfl, by decide +kernel, by decide +kernel⟩
abbrev s_fits : Stmt := (topS 5)
theorem sc_fits : FnScope ["task_value", "node_value", "drained", "assumed", "_", "zone"] ["task_value", "node_value", "drained", "assumed"] (defScope s_fits) := ⟨rfl, rfl, rfl, by decide +kernel, rfl, by decide +kernel, by decide +kernel⟩
abbrev s_choose_node : Stmt := (topS 7)
theorem sc_choose_node : FnScope ["task_value", "nodes", "ranks", "name", "node_value", "drained", "assumed", "same"] ["task_value", "nodes"] (defScope s_choose_node) := ⟨rfl, rfl, rfl, by decide +kernel, rfl, by decide +kernel, by decide +kernel⟩
abbrev s__law_number : Stmt := (topS 9)
theorem sc__law_number : FnScope ["script", "k", "cell"] ["script", "k"] (defScope s__law_number) := ⟨rfl, rfl, rfl, by decide +kernel, rfl, by decide +kernel, by decide +kernel⟩
abbrev s__law_digits : Stmt := (topS 10)
theorem sc__law_digits : FnScope ["script", "k", "sizes", "number", "digits", "size"] ["script", "k", "sizes"] (defScope s__law_digits) := ⟨rfl, rfl, rfl, by decide +kernel, rfl, by decide +kernel, by decide +kernel⟩
abbrev s__law_zone : Stmt := (topS 11)
theorem sc__law_zone : FnScope ["digit", "zones"] ["digit"] (defScope s__law_zone) := ⟨rfl, rfl, rfl, by decide +kernel, rfl, by decide +kernel, by decide +kernel⟩
abbrev s__law_node : Stmt := (topS 12)
theorem sc__law_node : FnScope ["script", "k", "at", "names", "size", "used", "life", "lost", "zone", "drain", "assumed", "same", "value"] ["script", "k", "at"] (defScope s__law_node) := ⟨rfl, rfl, rfl, by decide +kernel, rfl, by decide +kernel, by decide +kernel⟩
abbrev s__law_fits : Stmt := (topS 13)
theorem sc__law_fits : FnScope ["task", "node", "value"] ["task", "node"] (defScope s__law_fits) := ⟨rfl, rfl, rfl, by decide +kernel, rfl, by decide +kernel, by decide +kernel⟩
abbrev s__law_rank : Stmt := (topS 14)
theorem sc__law_rank : FnScope ["task", "node"] ["task", "node"] (defScope s__law_rank) := ⟨rfl, rfl, rfl, by decide +kernel, rfl, by decide +kernel, by decide +kernel⟩
abbrev s_law : Stmt := (topS 15)
theorem sc_law : FnScope ["script", "need", "place", "size", "turn", "task", "nodes", "kept", "actual", "fitting", "chosen", "node", "k"] ["script"] (defScope s_law) := ⟨rfl, rfl, rfl, by decide +kernel, rfl, by decide +kernel, by decide +kernel⟩

structure TX (K : PySem.W.Frag) (mg : Str → Option Value) where
  a_free_size : Addr
  d_free_size : FuncData
  F_free_size : Fun K "free_size" "free_size" s_free_size a_free_size d_free_size
  b_free_size : Binds K d_free_size ["node_value", "assumed"] []
  g_free_size : mg "free_size" = some (.ref a_free_size)
  a_is_open : Addr
  d_is_open : FuncData
  F_is_open : Fun K "is_open" "is_open" s_is_open a_is_open d_is_open
  b_is_open : Binds K d_is_open ["node_value"] []
  g_is_open : mg "is_open" = some (.ref a_is_open)
  a_fits : Addr
  d_fits : FuncData
  F_fits : Fun K "fits" "fits" s_fits a_fits d_fits
  b_fits : Binds K d_fits ["task_value", "node_value", "drained", "assumed"] []
  g_fits : mg "fits" = some (.ref a_fits)
  a_choose_node : Addr
  d_choose_node : FuncData
  F_choose_node : Fun K "choose_node" "choose_node" s_choose_node a_choose_node d_choose_node
  b_choose_node : Binds K d_choose_node ["task_value", "nodes"] []
  g_choose_node : mg "choose_node" = some (.ref a_choose_node)
  a__law_number : Addr
  d__law_number : FuncData
  F__law_number : Fun K "_law_number" "_law_number" s__law_number a__law_number d__law_number
  b__law_number : Binds K d__law_number ["script", "k"] []
  g__law_number : mg "_law_number" = some (.ref a__law_number)
  a__law_digits : Addr
  d__law_digits : FuncData
  F__law_digits : Fun K "_law_digits" "_law_digits" s__law_digits a__law_digits d__law_digits
  b__law_digits : Binds K d__law_digits ["script", "k", "sizes"] []
  g__law_digits : mg "_law_digits" = some (.ref a__law_digits)
  a__law_zone : Addr
  d__law_zone : FuncData
  F__law_zone : Fun K "_law_zone" "_law_zone" s__law_zone a__law_zone d__law_zone
  b__law_zone : Binds K d__law_zone ["digit"] []
  g__law_zone : mg "_law_zone" = some (.ref a__law_zone)
  a__law_node : Addr
  d__law_node : FuncData
  F__law_node : Fun K "_law_node" "_law_node" s__law_node a__law_node d__law_node
  b__law_node : Binds K d__law_node ["script", "k", "at"] []
  g__law_node : mg "_law_node" = some (.ref a__law_node)
  a__law_fits : Addr
  d__law_fits : FuncData
  F__law_fits : Fun K "_law_fits" "_law_fits" s__law_fits a__law_fits d__law_fits
  b__law_fits : Binds K d__law_fits ["task", "node"] []
  g__law_fits : mg "_law_fits" = some (.ref a__law_fits)
  a__law_rank : Addr
  d__law_rank : FuncData
  F__law_rank : Fun K "_law_rank" "_law_rank" s__law_rank a__law_rank d__law_rank
  b__law_rank : Binds K d__law_rank ["task", "node"] []
  g__law_rank : mg "_law_rank" = some (.ref a__law_rank)
  a_law : Addr
  d_law : FuncData
  F_law : Fun K "law" "law" s_law a_law d_law
  b_law : Binds K d_law ["script"] []
  g_law : mg "law" = some (.ref a_law)
  t_SIZE : Tok
  c_SIZE : mg "SIZE" = some (.int 2 t_SIZE)
  t_ZONE : Tok
  c_ZONE : mg "ZONE" = some (.int 7 t_ZONE)
  n_len : mg "len" = none
  n_abs : mg "abs" = none
  n_int : mg "int" = none
  n_min : mg "min" = none
  n_max : mg "max" = none
  n_range : mg "range" = none
  n_isinstance : mg "isinstance" = none
  n_str : mg "str" = none


/-- a statement that changes nothing, then the rest -/
theorem cut_same {t u : TS} {D : L2.Ends} {σ : L2.St} {H : Hp} (h1 : t { D with nx := fun σ' G => σ' = σ ∧ G = H } σ H) (h2 : u D σ H) : C8.tCut t u D σ H := ⟨_, h1, fun _ _ ⟨a, b⟩ => by rw [a, b]; exact h2⟩
/-- the slots written out -/
theorem nrm4 {t : TS} {D : L2.Ends} {σ : L2.St} {H : Hp} {a0 a1 a2 a3 : Option V} (e : σ = [a0, a1, a2, a3]) (h : t D [a0, a1, a2, a3] H) : t D σ H := by rw [e]; exact h
theorem nrm5 {t : TS} {D : L2.Ends} {σ : L2.St} {H : Hp} {a0 a1 a2 a3 a4 : Option V} (e : σ = [a0, a1, a2, a3, a4]) (h : t D [a0, a1, a2, a3, a4] H) : t D σ H := by rw [e]; exact h
theorem nrm6 {t : TS} {D : L2.Ends} {σ : L2.St} {H : Hp} {a0 a1 a2 a3 a4 a5 : Option V} (e : σ = [a0, a1, a2, a3, a4, a5]) (h : t D [a0, a1, a2, a3, a4, a5] H) : t D σ H := by rw [e]; exact h
theorem nrm7 {t : TS} {D : L2.Ends} {σ : L2.St} {H : Hp} {a0 a1 a2 a3 a4 a5 a6 : Option V} (e : σ = [a0, a1, a2, a3, a4, a5, a6]) (h : t D [a0, a1, a2, a3, a4, a5, a6] H) : t D σ H := by rw [e]; exact h
theorem nrm8 {t : TS} {D : L2.Ends} {σ : L2.St} {H : Hp} {a0 a1 a2 a3 a4 a5 a6 a7 : Option V} (e : σ = [a0, a1, a2, a3, a4, a5, a6, a7]) (h : t D [a0, a1, a2, a3, a4, a5, a6, a7] H) : t D σ H := by rw [e]; exact h
theorem nrm9 {t : TS} {D : L2.Ends} {σ : L2.St} {H : Hp} {a0 a1 a2 a3 a4 a5 a6 a7 a8 : Option V} (e : σ = [a0, a1, a2, a3, a4, a5, a6, a7, a8]) (h : t D [a0, a1, a2, a3, a4, a5, a6, a7, a8] H) : t D σ H := by rw [e]; exact h
theorem nrm10 {t : TS} {D : L2.Ends} {σ : L2.St} {H : Hp} {a0 a1 a2 a3 a4 a5 a6 a7 a8 a9 : Option V} (e : σ = [a0, a1, a2, a3, a4, a5, a6, a7, a8, a9]) (h : t D [a0, a1, a2, a3, a4, a5, a6, a7, a8, a9] H) : t D σ H := by rw [e]; exact h
theorem nrm11 {t : TS} {D : L2.Ends} {σ : L2.St} {H : Hp} {a0 a1 a2 a3 a4 a5 a6 a7 a8 a9 a10 : Option V} (e : σ = [a0, a1, a2, a3, a4, a5, a6, a7, a8, a9, a10]) (h : t D [a0, a1, a2, a3, a4, a5, a6, a7, a8, a9, a10] H) : t D σ H := by rw [e]; exact h
theorem nrm12 {t : TS} {D : L2.Ends} {σ : L2.St} {H : Hp} {a0 a1 a2 a3 a4 a5 a6 a7 a8 a9 a10 a11 : Option V} (e : σ = [a0, a1, a2, a3, a4, a5, a6, a7, a8, a9, a10, a11]) (h : t D [a0, a1, a2, a3, a4, a5, a6, a7, a8, a9, a10, a11] H) : t D σ H := by rw [e]; exact h
theorem nrm13 {t : TS} {D : L2.Ends} {σ : L2.St} {H : Hp} {a0 a1 a2 a3 a4 a5 a6 a7 a8 a9 a10 a11 a12 : Option V} (e : σ = [a0, a1, a2, a3, a4, a5, a6, a7, a8, a9, a10, a11, a12]) (h : t D [a0, a1, a2, a3, a4, a5, a6, a7, a8, a9, a10, a11, a12] H) : t D σ H := by rw [e]; exact h
theorem nrm14 {t : TS} {D : L2.Ends} {σ : L2.St} {H : Hp} {a0 a1 a2 a3 a4 a5 a6 a7 a8 a9 a10 a11 a12 a13 : Option V} (e : σ = [a0, a1, a2, a3, a4, a5, a6, a7, a8, a9, a10, a11, a12, a13]) (h : t D [a0, a1, a2, a3, a4, a5, a6, a7, a8, a9, a10, a11, a12, a13] H) : t D σ H := by rw [e]; exact h
theorem nrm15 {t : TS} {D : L2.Ends} {σ : L2.St} {H : Hp} {a0 a1 a2 a3 a4 a5 a6 a7 a8 a9 a10 a11 a12 a13 a14 : Option V} (e : σ = [a0, a1, a2, a3, a4, a5, a6, a7, a8, a9, a10, a11, a12, a13, a14]) (h : t D [a0, a1, a2, a3, a4, a5, a6, a7, a8, a9, a10, a11, a12, a13, a14] H) : t D σ H := by rw [e]; exact h
theorem nrm16 {t : TS} {D : L2.Ends} {σ : L2.St} {H : Hp} {a0 a1 a2 a3 a4 a5 a6 a7 a8 a9 a10 a11 a12 a13 a14 a15 : Option V} (e : σ = [a0, a1, a2, a3, a4, a5, a6, a7, a8, a9, a10, a11, a12, a13, a14, a15]) (h : t D [a0, a1, a2, a3, a4, a5, a6, a7, a8, a9, a10, a11, a12, a13, a14, a15] H) : t D σ H := by rw [e]; exact h
theorem nrm17 {t : TS} {D : L2.Ends} {σ : L2.St} {H : Hp} {a0 a1 a2 a3 a4 a5 a6 a7 a8 a9 a10 a11 a12 a13 a14 a15 a16 : Option V} (e : σ = [a0, a1, a2, a3, a4, a5, a6, a7, a8, a9, a10, a11, a12, a13, a14, a15, a16]) (h : t D [a0, a1, a2, a3, a4, a5, a6, a7, a8, a9, a10, a11, a12, a13, a14, a15, a16] H) : t D σ H := by rw [e]; exact h
theorem nrm18 {t : TS} {D : L2.Ends} {σ : L2.St} {H : Hp} {a0 a1 a2 a3 a4 a5 a6 a7 a8 a9 a10 a11 a12 a13 a14 a15 a16 a17 : Option V} (e : σ = [a0, a1, a2, a3, a4, a5, a6, a7, a8, a9, a10, a11, a12, a13, a14, a15, a16, a17]) (h : t D [a0, a1, a2, a3, a4, a5, a6, a7, a8, a9, a10, a11, a12, a13, a14, a15, a16, a17] H) : t D σ H := by rw [e]; exact h
theorem nrm19 {t : TS} {D : L2.Ends} {σ : L2.St} {H : Hp} {a0 a1 a2 a3 a4 a5 a6 a7 a8 a9 a10 a11 a12 a13 a14 a15 a16 a17 a18 : Option V} (e : σ = [a0, a1, a2, a3, a4, a5, a6, a7, a8, a9, a10, a11, a12, a13, a14, a15, a16, a17, a18]) (h : t D [a0, a1, a2, a3, a4, a5, a6, a7, a8, a9, a10, a11, a12, a13, a14, a15, a16, a17, a18] H) : t D σ H := by rw [e]; exact h
theorem nrm20 {t : TS} {D : L2.Ends} {σ : L2.St} {H : Hp} {a0 a1 a2 a3 a4 a5 a6 a7 a8 a9 a10 a11 a12 a13 a14 a15 a16 a17 a18 a19 : Option V} (e : σ = [a0, a1, a2, a3, a4, a5, a6, a7, a8, a9, a10, a11, a12, a13, a14, a15, a16, a17, a18, a19]) (h : t D [a0, a1, a2, a3, a4, a5, a6, a7, a8, a9, a10, a11, a12, a13, a14, a15, a16, a17, a18, a19] H) : t D σ H := by rw [e]; exact h
theorem nrm21 {t : TS} {D : L2.Ends} {σ : L2.St} {H : Hp} {a0 a1 a2 a3 a4 a5 a6 a7 a8 a9 a10 a11 a12 a13 a14 a15 a16 a17 a18 a19 a20 : Option V} (e : σ = [a0, a1, a2, a3, a4, a5, a6, a7, a8, a9, a10, a11, a12, a13, a14, a15, a16, a17, a18, a19, a20]) (h : t D [a0, a1, a2, a3, a4, a5, a6, a7, a8, a9, a10, a11, a12, a13, a14, a15, a16, a17, a18, a19, a20] H) : t D σ H := by rw [e]; exact h
theorem nrm22 {t : TS} {D : L2.Ends} {σ : L2.St} {H : Hp} {a0 a1 a2 a3 a4 a5 a6 a7 a8 a9 a10 a11 a12 a13 a14 a15 a16 a17 a18 a19 a20 a21 : Option V} (e : σ = [a0, a1, a2, a3, a4, a5, a6, a7, a8, a9, a10, a11, a12, a13, a14, a15, a16, a17, a18, a19, a20, a21]) (h : t D [a0, a1, a2, a3, a4, a5, a6, a7, a8, a9, a10, a11, a12, a13, a14, a15, a16, a17, a18, a19, a20, a21] H) : t D σ H := by rw [e]; exact h
theorem nrm23 {t : TS} {D : L2.Ends} {σ : L2.St} {H : Hp} {a0 a1 a2 a3 a4 a5 a6 a7 a8 a9 a10 a11 a12 a13 a14 a15 a16 a17 a18 a19 a20 a21 a22 : Option V} (e : σ = [a0, a1, a2, a3, a4, a5, a6, a7, a8, a9, a10, a11, a12, a13, a14, a15, a16, a17, a18, a19, a20, a21, a22]) (h : t D [a0, a1, a2, a3, a4, a5, a6, a7, a8, a9, a10, a11, a12, a13, a14, a15, a16, a17, a18, a19, a20, a21, a22] H) : t D σ H := by rw [e]; exact h
theorem nrm24 {t : TS} {D : L2.Ends} {σ : L2.St} {H : Hp} {a0 a1 a2 a3 a4 a5 a6 a7 a8 a9 a10 a11 a12 a13 a14 a15 a16 a17 a18 a19 a20 a21 a22 a23 : Option V} (e : σ = [a0, a1, a2, a3, a4, a5, a6, a7, a8, a9, a10, a11, a12, a13, a14, a15, a16, a17, a18, a19, a20, a21, a22, a23]) (h : t D [a0, a1, a2, a3, a4, a5, a6, a7, a8, a9, a10, a11, a12, a13, a14, a15, a16, a17, a18, a19, a20, a21, a22, a23] H) : t D σ H := by rw [e]; exact h
theorem nrm25 {t : TS} {D : L2.Ends} {σ : L2.St} {H : Hp} {a0 a1 a2 a3 a4 a5 a6 a7 a8 a9 a10 a11 a12 a13 a14 a15 a16 a17 a18 a19 a20 a21 a22 a23 a24 : Option V} (e : σ = [a0, a1, a2, a3, a4, a5, a6, a7, a8, a9, a10, a11, a12, a13, a14, a15, a16, a17, a18, a19, a20, a21, a22, a23, a24]) (h : t D [a0, a1, a2, a3, a4, a5, a6, a7, a8, a9, a10, a11, a12, a13, a14, a15, a16, a17, a18, a19, a20, a21, a22, a23, a24] H) : t D σ H := by rw [e]; exact h
theorem nrm26 {t : TS} {D : L2.Ends} {σ : L2.St} {H : Hp} {a0 a1 a2 a3 a4 a5 a6 a7 a8 a9 a10 a11 a12 a13 a14 a15 a16 a17 a18 a19 a20 a21 a22 a23 a24 a25 : Option V} (e : σ = [a0, a1, a2, a3, a4, a5, a6, a7, a8, a9, a10, a11, a12, a13, a14, a15, a16, a17, a18, a19, a20, a21, a22, a23, a24, a25]) (h : t D [a0, a1, a2, a3, a4, a5, a6, a7, a8, a9, a10, a11, a12, a13, a14, a15, a16, a17, a18, a19, a20, a21, a22, a23, a24, a25] H) : t D σ H := by rw [e]; exact h
/-- a name is stored, the slots written out -/
theorem gnm4 {i : Nat} {v : V} {σ : L2.St} {H : Hp} {Q : L2.St → Hp → Prop} {a0 a1 a2 a3 : Option V} (e : σ.set i (some v) = [a0, a1, a2, a3]) (h : Q [a0, a1, a2, a3] H) : gName i v σ H Q := by show Q (σ.set i (some v)) H; rw [e]; exact h
theorem gnm5 {i : Nat} {v : V} {σ : L2.St} {H : Hp} {Q : L2.St → Hp → Prop} {a0 a1 a2 a3 a4 : Option V} (e : σ.set i (some v) = [a0, a1, a2, a3, a4]) (h : Q [a0, a1, a2, a3, a4] H) : gName i v σ H Q := by show Q (σ.set i (some v)) H; rw [e]; exact h
theorem gnm6 {i : Nat} {v : V} {σ : L2.St} {H : Hp} {Q : L2.St → Hp → Prop} {a0 a1 a2 a3 a4 a5 : Option V} (e : σ.set i (some v) = [a0, a1, a2, a3, a4, a5]) (h : Q [a0, a1, a2, a3, a4, a5] H) : gName i v σ H Q := by show Q (σ.set i (some v)) H; rw [e]; exact h
theorem gnm7 {i : Nat} {v : V} {σ : L2.St} {H : Hp} {Q : L2.St → Hp → Prop} {a0 a1 a2 a3 a4 a5 a6 : Option V} (e : σ.set i (some v) = [a0, a1, a2, a3, a4, a5, a6]) (h : Q [a0, a1, a2, a3, a4, a5, a6] H) : gName i v σ H Q := by show Q (σ.set i (some v)) H; rw [e]; exact h
theorem gnm8 {i : Nat} {v : V} {σ : L2.St} {H : Hp} {Q : L2.St → Hp → Prop} {a0 a1 a2 a3 a4 a5 a6 a7 : Option V} (e : σ.set i (some v) = [a0, a1, a2, a3, a4, a5, a6, a7]) (h : Q [a0, a1, a2, a3, a4, a5, a6, a7] H) : gName i v σ H Q := by show Q (σ.set i (some v)) H; rw [e]; exact h
theorem gnm9 {i : Nat} {v : V} {σ : L2.St} {H : Hp} {Q : L2.St → Hp → Prop} {a0 a1 a2 a3 a4 a5 a6 a7 a8 : Option V} (e : σ.set i (some v) = [a0, a1, a2, a3, a4, a5, a6, a7, a8]) (h : Q [a0, a1, a2, a3, a4, a5, a6, a7, a8] H) : gName i v σ H Q := by show Q (σ.set i (some v)) H; rw [e]; exact h
theorem gnm10 {i : Nat} {v : V} {σ : L2.St} {H : Hp} {Q : L2.St → Hp → Prop} {a0 a1 a2 a3 a4 a5 a6 a7 a8 a9 : Option V} (e : σ.set i (some v) = [a0, a1, a2, a3, a4, a5, a6, a7, a8, a9]) (h : Q [a0, a1, a2, a3, a4, a5, a6, a7, a8, a9] H) : gName i v σ H Q := by show Q (σ.set i (some v)) H; rw [e]; exact h
theorem gnm11 {i : Nat} {v : V} {σ : L2.St} {H : Hp} {Q : L2.St → Hp → Prop} {a0 a1 a2 a3 a4 a5 a6 a7 a8 a9 a10 : Option V} (e : σ.set i (some v) = [a0, a1, a2, a3, a4, a5, a6, a7, a8, a9, a10]) (h : Q [a0, a1, a2, a3, a4, a5, a6, a7, a8, a9, a10] H) : gName i v σ H Q := by show Q (σ.set i (some v)) H; rw [e]; exact h
theorem gnm12 {i : Nat} {v : V} {σ : L2.St} {H : Hp} {Q : L2.St → Hp → Prop} {a0 a1 a2 a3 a4 a5 a6 a7 a8 a9 a10 a11 : Option V} (e : σ.set i (some v) = [a0, a1, a2, a3, a4, a5, a6, a7, a8, a9, a10, a11]) (h : Q [a0, a1, a2, a3, a4, a5, a6, a7, a8, a9, a10, a11] H) : gName i v σ H Q := by show Q (σ.set i (some v)) H; rw [e]; exact h
theorem gnm13 {i : Nat} {v : V} {σ : L2.St} {H : Hp} {Q : L2.St → Hp → Prop} {a0 a1 a2 a3 a4 a5 a6 a7 a8 a9 a10 a11 a12 : Option V} (e : σ.set i (some v) = [a0, a1, a2, a3, a4, a5, a6, a7, a8, a9, a10, a11, a12]) (h : Q [a0, a1, a2, a3, a4, a5, a6, a7, a8, a9, a10, a11, a12] H) : gName i v σ H Q := by show Q (σ.set i (some v)) H; rw [e]; exact h
theorem gnm14 {i : Nat} {v : V} {σ : L2.St} {H : Hp} {Q : L2.St → Hp → Prop} {a0 a1 a2 a3 a4 a5 a6 a7 a8 a9 a10 a11 a12 a13 : Option V} (e : σ.set i (some v) = [a0, a1, a2, a3, a4, a5, a6, a7, a8, a9, a10, a11, a12, a13]) (h : Q [a0, a1, a2, a3, a4, a5, a6, a7, a8, a9, a10, a11, a12, a13] H) : gName i v σ H Q := by show Q (σ.set i (some v)) H; rw [e]; exact h
theorem gnm15 {i : Nat} {v : V} {σ : L2.St} {H : Hp} {Q : L2.St → Hp → Prop} {a0 a1 a2 a3 a4 a5 a6 a7 a8 a9 a10 a11 a12 a13 a14 : Option V} (e : σ.set i (some v) = [a0, a1, a2, a3, a4, a5, a6, a7, a8, a9, a10, a11, a12, a13, a14]) (h : Q [a0, a1, a2, a3, a4, a5, a6, a7, a8, a9, a10, a11, a12, a13, a14] H) : gName i v σ H Q := by show Q (σ.set i (some v)) H; rw [e]; exact h
theorem gnm16 {i : Nat} {v : V} {σ : L2.St} {H : Hp} {Q : L2.St → Hp → Prop} {a0 a1 a2 a3 a4 a5 a6 a7 a8 a9 a10 a11 a12 a13 a14 a15 : Option V} (e : σ.set i (some v) = [a0, a1, a2, a3, a4, a5, a6, a7, a8, a9, a10, a11, a12, a13, a14, a15]) (h : Q [a0, a1, a2, a3, a4, a5, a6, a7, a8, a9, a10, a11, a12, a13, a14, a15] H) : gName i v σ H Q := by show Q (σ.set i (some v)) H; rw [e]; exact h
theorem gnm17 {i : Nat} {v : V} {σ : L2.St} {H : Hp} {Q : L2.St → Hp → Prop} {a0 a1 a2 a3 a4 a5 a6 a7 a8 a9 a10 a11 a12 a13 a14 a15 a16 : Option V} (e : σ.set i (some v) = [a0, a1, a2, a3, a4, a5, a6, a7, a8, a9, a10, a11, a12, a13, a14, a15, a16]) (h : Q [a0, a1, a2, a3, a4, a5, a6, a7, a8, a9, a10, a11, a12, a13, a14, a15, a16] H) : gName i v σ H Q := by show Q (σ.set i (some v)) H; rw [e]; exact h
theorem gnm18 {i : Nat} {v : V} {σ : L2.St} {H : Hp} {Q : L2.St → Hp → Prop} {a0 a1 a2 a3 a4 a5 a6 a7 a8 a9 a10 a11 a12 a13 a14 a15 a16 a17 : Option V} (e : σ.set i (some v) = [a0, a1, a2, a3, a4, a5, a6, a7, a8, a9, a10, a11, a12, a13, a14, a15, a16, a17]) (h : Q [a0, a1, a2, a3, a4, a5, a6, a7, a8, a9, a10, a11, a12, a13, a14, a15, a16, a17] H) : gName i v σ H Q := by show Q (σ.set i (some v)) H; rw [e]; exact h
theorem gnm19 {i : Nat} {v : V} {σ : L2.St} {H : Hp} {Q : L2.St → Hp → Prop} {a0 a1 a2 a3 a4 a5 a6 a7 a8 a9 a10 a11 a12 a13 a14 a15 a16 a17 a18 : Option V} (e : σ.set i (some v) = [a0, a1, a2, a3, a4, a5, a6, a7, a8, a9, a10, a11, a12, a13, a14, a15, a16, a17, a18]) (h : Q [a0, a1, a2, a3, a4, a5, a6, a7, a8, a9, a10, a11, a12, a13, a14, a15, a16, a17, a18] H) : gName i v σ H Q := by show Q (σ.set i (some v)) H; rw [e]; exact h
theorem gnm20 {i : Nat} {v : V} {σ : L2.St} {H : Hp} {Q : L2.St → Hp → Prop} {a0 a1 a2 a3 a4 a5 a6 a7 a8 a9 a10 a11 a12 a13 a14 a15 a16 a17 a18 a19 : Option V} (e : σ.set i (some v) = [a0, a1, a2, a3, a4, a5, a6, a7, a8, a9, a10, a11, a12, a13, a14, a15, a16, a17, a18, a19]) (h : Q [a0, a1, a2, a3, a4, a5, a6, a7, a8, a9, a10, a11, a12, a13, a14, a15, a16, a17, a18, a19] H) : gName i v σ H Q := by show Q (σ.set i (some v)) H; rw [e]; exact h
theorem gnm21 {i : Nat} {v : V} {σ : L2.St} {H : Hp} {Q : L2.St → Hp → Prop} {a0 a1 a2 a3 a4 a5 a6 a7 a8 a9 a10 a11 a12 a13 a14 a15 a16 a17 a18 a19 a20 : Option V} (e : σ.set i (some v) = [a0, a1, a2, a3, a4, a5, a6, a7, a8, a9, a10, a11, a12, a13, a14, a15, a16, a17, a18, a19, a20]) (h : Q [a0, a1, a2, a3, a4, a5, a6, a7, a8, a9, a10, a11, a12, a13, a14, a15, a16, a17, a18, a19, a20] H) : gName i v σ H Q := by show Q (σ.set i (some v)) H; rw [e]; exact h
theorem gnm22 {i : Nat} {v : V} {σ : L2.St} {H : Hp} {Q : L2.St → Hp → Prop} {a0 a1 a2 a3 a4 a5 a6 a7 a8 a9 a10 a11 a12 a13 a14 a15 a16 a17 a18 a19 a20 a21 : Option V} (e : σ.set i (some v) = [a0, a1, a2, a3, a4, a5, a6, a7, a8, a9, a10, a11, a12, a13, a14, a15, a16, a17, a18, a19, a20, a21]) (h : Q [a0, a1, a2, a3, a4, a5, a6, a7, a8, a9, a10, a11, a12, a13, a14, a15, a16, a17, a18, a19, a20, a21] H) : gName i v σ H Q := by show Q (σ.set i (some v)) H; rw [e]; exact h
theorem gnm23 {i : Nat} {v : V} {σ : L2.St} {H : Hp} {Q : L2.St → Hp → Prop} {a0 a1 a2 a3 a4 a5 a6 a7 a8 a9 a10 a11 a12 a13 a14 a15 a16 a17 a18 a19 a20 a21 a22 : Option V} (e : σ.set i (some v) = [a0, a1, a2, a3, a4, a5, a6, a7, a8, a9, a10, a11, a12, a13, a14, a15, a16, a17, a18, a19, a20, a21, a22]) (h : Q [a0, a1, a2, a3, a4, a5, a6, a7, a8, a9, a10, a11, a12, a13, a14, a15, a16, a17, a18, a19, a20, a21, a22] H) : gName i v σ H Q := by show Q (σ.set i (some v)) H; rw [e]; exact h
theorem gnm24 {i : Nat} {v : V} {σ : L2.St} {H : Hp} {Q : L2.St → Hp → Prop} {a0 a1 a2 a3 a4 a5 a6 a7 a8 a9 a10 a11 a12 a13 a14 a15 a16 a17 a18 a19 a20 a21 a22 a23 : Option V} (e : σ.set i (some v) = [a0, a1, a2, a3, a4, a5, a6, a7, a8, a9, a10, a11, a12, a13, a14, a15, a16, a17, a18, a19, a20, a21, a22, a23]) (h : Q [a0, a1, a2, a3, a4, a5, a6, a7, a8, a9, a10, a11, a12, a13, a14, a15, a16, a17, a18, a19, a20, a21, a22, a23] H) : gName i v σ H Q := by show Q (σ.set i (some v)) H; rw [e]; exact h
theorem gnm25 {i : Nat} {v : V} {σ : L2.St} {H : Hp} {Q : L2.St → Hp → Prop} {a0 a1 a2 a3 a4 a5 a6 a7 a8 a9 a10 a11 a12 a13 a14 a15 a16 a17 a18 a19 a20 a21 a22 a23 a24 : Option V} (e : σ.set i (some v) = [a0, a1, a2, a3, a4, a5, a6, a7, a8, a9, a10, a11, a12, a13, a14, a15, a16, a17, a18, a19, a20, a21, a22, a23, a24]) (h : Q [a0, a1, a2, a3, a4, a5, a6, a7, a8, a9, a10, a11, a12, a13, a14, a15, a16, a17, a18, a19, a20, a21, a22, a23, a24] H) : gName i v σ H Q := by show Q (σ.set i (some v)) H; rw [e]; exact h
theorem gnm26 {i : Nat} {v : V} {σ : L2.St} {H : Hp} {Q : L2.St → Hp → Prop} {a0 a1 a2 a3 a4 a5 a6 a7 a8 a9 a10 a11 a12 a13 a14 a15 a16 a17 a18 a19 a20 a21 a22 a23 a24 a25 : Option V} (e : σ.set i (some v) = [a0, a1, a2, a3, a4, a5, a6, a7, a8, a9, a10, a11, a12, a13, a14, a15, a16, a17, a18, a19, a20, a21, a22, a23, a24, a25]) (h : Q [a0, a1, a2, a3, a4, a5, a6, a7, a8, a9, a10, a11, a12, a13, a14, a15, a16, a17, a18, a19, a20, a21, a22, a23, a24, a25] H) : gName i v σ H Q := by show Q (σ.set i (some v)) H; rw [e]; exact h
/-! comprehensions whose elements are data -/
/-- what stood in G away from D stands in G'' -/
def Off (D : Addr) (G G'' : Hp) : Prop := ∀ b o, b ≠ D → G b = some o → G'' b = some o
theorem Off.refl (D : Addr) (G : Hp) : Off D G G := fun _ _ _ h => h
theorem Off.pre {D : Addr} {G G' G'' : Hp} (s : Same G G') (h : Off D G' G'') : Off D G G'' := fun b o n e => h b o n (s b o e)
theorem Off.put {D : Addr} {G G'' : Hp} {o : HO} (h : Off D (upd G D o) G'') : Off D G G'' := fun b u n e => h b u n (by rw [upd_ne n]; exact e)
theorem lcg {K : PySem.W.Frag} {J : It} {n : Nat} {Gd : Hp → Prop} {Y : Nat → Hp → V → Hp → Prop} (w : Walk J n Gd Y) {g : TG} {tt : TT} {te : TE} {vs : List Nat} {σ : L2.St} {H : Hp} {D : Addr} {Qd : Hp → Prop}
    (P : Nat → List PyData → Prop) (h0 : P 0 []) (hD : H D = none) (hG : ∀ G, Same H G → Gd G) (hn : n ≤ 90000)
    (hs : ∀ i x G G1 ds, i < n → Same H G → (∃ l, G D = some (.lst l)) → P i ds → Y i G x G1 → ∀ J : Option V → Hp → Prop, (∀ G', Same G G' → P (i + 1) ds → J none G') →
      (∀ y d G', Same G G' → (∀ G'', Same H G'' → Off D G' G'' → Dp K G'' y d) → P (i + 1) (ds ++ [d]) → J (some y) G') →
      g x (wipe σ vs) G1 fun σ2 H2 => wipe σ2 vs = wipe σ vs ∧ tt σ2 H2 fun b H3 => if b = true then te σ2 H3 fun y H4 => J (some y) H4 else J none H3)
    (k : ∀ H' ys ds, Same H H' → H' D = some (.lst ys) → DpAll K H' ys ds → P n ds → Qd H') :
    ∃ W : Nat → Nat → Hp → Prop, (∃ m, W 0 m (upd H D (.lst []))) ∧ ∀ i m H, W i m H →
      (J.stop i H ∧ Qd H) ∨ (J.go i H ∧ ∃ Nx : Hp → Prop, (∀ H', Nx H' → ∃ m', m' < m ∧ W (i + 1) m' H') ∧ ∀ x H', J.yld i H x H' → g x (wipe σ vs) H' fun σ2 H2 => wipe σ2 vs = wipe σ vs ∧ tt σ2 H2 fun b H3 =>
        if b = true then te σ2 H3 fun y H4 => ∃ acc, H4 D = some (.lst acc) ∧ acc.length < sizeLine ∧ Nx (upd H4 D (.lst (acc ++ [y]))) else Nx H3) := by
  refine lc_it w (fun i G => ∃ ys ds, Same H G ∧ G D = some (.lst ys) ∧ (∀ G'', Same H G'' → Off D G G'' → DpAll K G'' ys ds) ∧ P i ds ∧ ds.length ≤ i) ⟨[], [], same_upd hD, upd_same, fun _ _ _ => .nil, h0, Nat.le_refl _⟩ (fun i G _ h => hG G h.choose_spec.choose_spec.1) ?_ ?_
  · rintro i x G G1 hi ⟨ys, ds, s1, e1, h1, p1, l1⟩ hy
    have hl : ys.length = ds.length := dpa_len (h1 G s1 (Off.refl _ _))
    refine hs i x G G1 ds hi s1 ⟨ys, e1⟩ p1 hy (fun o G' => match o with
      | some y => ∃ acc, G' D = some (.lst acc) ∧ acc.length < sizeLine ∧ ∃ ys ds, Same H (upd G' D (.lst (acc ++ [y]))) ∧ (upd G' D (.lst (acc ++ [y]))) D = some (.lst ys) ∧ (∀ G'', Same H G'' → Off D (upd G' D (.lst (acc ++ [y]))) G'' → DpAll K G'' ys ds) ∧ P (i + 1) ds ∧ ds.length ≤ i + 1
      | none => ∃ ys ds, Same H G' ∧ G' D = some (.lst ys) ∧ (∀ G'', Same H G'' → Off D G' G'' → DpAll K G'' ys ds) ∧ P (i + 1) ds ∧ ds.length ≤ i + 1) ?_ ?_
    · exact fun G' s p => ⟨ys, ds, s1.trans s, s _ _ e1, fun G'' s2 o => h1 G'' s2 (Off.pre s o), p, by omega⟩
    · exact fun y d G' s hy p => ⟨ys, s _ _ e1, szl (by omega), ys ++ [y], ds ++ [d], same_put (s1.trans s) hD, upd_same, fun G'' s2 o => dpa_app (h1 G'' s2 (Off.pre s o.put)) (.cons (hy G'' s2 o.put) .nil), p, by rw [List.length_append]; simp only [List.length_cons, List.length_nil]; omega⟩
  · rintro G ⟨ys, ds, s1, e1, h1, p1, _⟩
    exact k G ys ds s1 e1 (h1 G s1 (Off.refl _ _)) p1
/-- over a list of data, each element by a function -/
theorem lcd {α : Type} {K : PySem.W.Frag} {g : TG} {tt : TT} {te : TE} {vs : List Nat} {σ : L2.St} {H : Hp} {D a : Addr} {Qd : Hp → Prop} {xs : List V} (es : List α) (pd : α → PyData) (f : α → Option PyData)
    (hD : H D = none) (hL : SqL K H a xs) (hx : DpAll K H xs (es.map pd)) (hn : es.length ≤ 90000)
    (hs : ∀ x e G, e ∈ es → Same H G → (∃ l, G D = some (.lst l)) → Dp K H x (pd e) → ∀ J : Option V → Hp → Prop, (∀ G', Same G G' → f e = none → J none G') →
      (∀ y d G', Same G G' → (∀ G'', Same H G'' → Off D G' G'' → Dp K G'' y d) → f e = some d → J (some y) G') →
      g x (wipe σ vs) G fun σ2 H2 => wipe σ2 vs = wipe σ vs ∧ tt σ2 H2 fun b H3 => if b = true then te σ2 H3 fun y H4 => J (some y) H4 else J none H3)
    (k : ∀ H' ys, Same H H' → H' D = some (.lst ys) → DpAll K H' ys (es.filterMap f) → Qd H') :
    ∃ W : Nat → Nat → Hp → Prop, (∃ m, W 0 m (upd H D (.lst []))) ∧ ∀ i m H, W i m H →
      ((Itl K a).stop i H ∧ Qd H) ∨ ((Itl K a).go i H ∧ ∃ Nx : Hp → Prop, (∀ H', Nx H' → ∃ m', m' < m ∧ W (i + 1) m' H') ∧ ∀ x H', (Itl K a).yld i H x H' → g x (wipe σ vs) H' fun σ2 H2 => wipe σ2 vs = wipe σ vs ∧ tt σ2 H2 fun b H3 =>
        if b = true then te σ2 H3 fun y H4 => ∃ acc, H4 D = some (.lst acc) ∧ acc.length < sizeLine ∧ Nx (upd H4 D (.lst (acc ++ [y]))) else Nx H3) := by
  have hl : xs.length = es.length := by have := dpa_len hx; rwa [List.length_map] at this
  refine lcg (K := K) (walk_list (K := K) (a := a) (xs := xs)) (fun i ds => ds = (es.take i).filterMap f) rfl hD (fun G s => s.seq hL) (by omega) ?_ ?_
  · rintro i x G G1 ds hi s1 hl1 rfl ⟨rfl, hxi⟩ J j1 j2
    have hi2 : i < es.length := by omega
    have he : es[i]? = some es[i] := List.getElem?_eq_getElem hi2
    obtain ⟨d, hd, hdp⟩ := dpa_at hx hxi
    rw [List.getElem?_map, he] at hd
    cases hd
    have ht : (es.take (i + 1)).filterMap f = (es.take i).filterMap f ++ (f es[i]).toList := by
      rw [take_more he, List.filterMap_append]
      cases e : f es[i] <;> simp [e]
    refine hs x es[i] G1 (List.getElem_mem hi2) s1 hl1 hdp J (fun G' s e => j1 G' s ?_) (fun y d G' s hy e => j2 y d G' s hy ?_)
    · rw [ht, e]; simp
    · rw [ht, e]; rfl
  · rintro H' ys ds s1 e1 h1 rfl
    rw [hl, List.take_length] at h1
    exact k H' ys s1 e1 h1
/-! data taken apart -/
theorem dp_tup {K : PySem.W.Frag} {H : Hp} {x : V} {ds : List PyData} (h : Dp K H x (.tuple ds)) : ∃ p vs, x = .ref p ∧ SqT K H p vs ∧ DpAll K H vs ds := by
  cases h with
  | tup h a => exact ⟨_, _, rfl, h, a⟩
theorem dp_str {K : PySem.W.Frag} {H : Hp} {x : V} {s : Str} (h : Dp K H x (.str s)) : x = .str s := by cases h; rfl
theorem dp_int {K : PySem.W.Frag} {H : Hp} {x : V} {i : Int} (h : Dp K H x (.int i)) : x = .int i := by cases h; rfl
theorem dp_bl {K : PySem.W.Frag} {H : Hp} {x : V} {i : Bool} (h : Dp K H x (.bool i)) : x = .bl i := by cases h; rfl
theorem dpa_nil {K : PySem.W.Frag} {H : Hp} {vs : List V} (h : DpAll K H vs []) : vs = [] := by cases h; rfl
theorem dpa_cons {K : PySem.W.Frag} {H : Hp} {vs : List V} {d : PyData} {ds : List PyData} (h : DpAll K H vs (d :: ds)) : ∃ v ws, vs = v :: ws ∧ Dp K H v d ∧ DpAll K H ws ds := by
  cases h with
  | cons h a => exact ⟨_, _, rfl, h, a⟩
theorem dpa_str {K : PySem.W.Frag} {H : Hp} {vs : List V} {s : Str} {ds : List PyData} (h : DpAll K H vs (.str s :: ds)) : ∃ ws, vs = .str s :: ws ∧ DpAll K H ws ds := by
  obtain ⟨v, ws, rfl, h1, h2⟩ := dpa_cons h
  exact ⟨ws, by rw [dp_str h1], h2⟩
theorem dpa_int {K : PySem.W.Frag} {H : Hp} {vs : List V} {s : Int} {ds : List PyData} (h : DpAll K H vs (.int s :: ds)) : ∃ ws, vs = .int s :: ws ∧ DpAll K H ws ds := by
  obtain ⟨v, ws, rfl, h1, h2⟩ := dpa_cons h
  exact ⟨ws, by rw [dp_int h1], h2⟩
theorem dpa_bl {K : PySem.W.Frag} {H : Hp} {vs : List V} {s : Bool} {ds : List PyData} (h : DpAll K H vs (.bool s :: ds)) : ∃ ws, vs = .bl s :: ws ∧ DpAll K H ws ds := by
  obtain ⟨v, ws, rfl, h1, h2⟩ := dpa_cons h
  exact ⟨ws, by rw [dp_bl h1], h2⟩
theorem fm_if {α β : Type} (p : α → Bool) (g : α → β) : ∀ l : List α, l.filterMap (fun e => if p e = true then some (g e) else none) = (l.filter p).map g
  | [] => rfl
  | a :: l => by
    have ih := fm_if p g l
    cases h : p a <;> simp [h, ih]
theorem dp_t1 {K : PySem.W.Frag} {H : Hp} {x : V} {d0 : PyData} (h : Dp K H x (.tuple [d0])) : ∃ p v0, x = .ref p ∧ SqT K H p [v0] ∧ Dp K H v0 d0 := by
  obtain ⟨p, vs, rfl, ht, h0⟩ := dp_tup h
  cases h0 with | cons g0 h1 =>
  cases h1
  exact ⟨p, _, rfl, ht, g0⟩
theorem dp_t2 {K : PySem.W.Frag} {H : Hp} {x : V} {d0 d1 : PyData} (h : Dp K H x (.tuple [d0, d1])) : ∃ p v0 v1, x = .ref p ∧ SqT K H p [v0, v1] ∧ Dp K H v0 d0 ∧ Dp K H v1 d1 := by
  obtain ⟨p, vs, rfl, ht, h0⟩ := dp_tup h
  cases h0 with | cons g0 h1 =>
  cases h1 with | cons g1 h2 =>
  cases h2
  exact ⟨p, _, _, rfl, ht, g0, g1⟩
theorem dp_t3 {K : PySem.W.Frag} {H : Hp} {x : V} {d0 d1 d2 : PyData} (h : Dp K H x (.tuple [d0, d1, d2])) : ∃ p v0 v1 v2, x = .ref p ∧ SqT K H p [v0, v1, v2] ∧ Dp K H v0 d0 ∧ Dp K H v1 d1 ∧ Dp K H v2 d2 := by
  obtain ⟨p, vs, rfl, ht, h0⟩ := dp_tup h
  cases h0 with | cons g0 h1 =>
  cases h1 with | cons g1 h2 =>
  cases h2 with | cons g2 h3 =>
  cases h3
  exact ⟨p, _, _, _, rfl, ht, g0, g1, g2⟩
theorem dp_t4 {K : PySem.W.Frag} {H : Hp} {x : V} {d0 d1 d2 d3 : PyData} (h : Dp K H x (.tuple [d0, d1, d2, d3])) : ∃ p v0 v1 v2 v3, x = .ref p ∧ SqT K H p [v0, v1, v2, v3] ∧ Dp K H v0 d0 ∧ Dp K H v1 d1 ∧ Dp K H v2 d2 ∧ Dp K H v3 d3 := by
  obtain ⟨p, vs, rfl, ht, h0⟩ := dp_tup h
  cases h0 with | cons g0 h1 =>
  cases h1 with | cons g1 h2 =>
  cases h2 with | cons g2 h3 =>
  cases h3 with | cons g3 h4 =>
  cases h4
  exact ⟨p, _, _, _, _, rfl, ht, g0, g1, g2, g3⟩
theorem dp_t5 {K : PySem.W.Frag} {H : Hp} {x : V} {d0 d1 d2 d3 d4 : PyData} (h : Dp K H x (.tuple [d0, d1, d2, d3, d4])) : ∃ p v0 v1 v2 v3 v4, x = .ref p ∧ SqT K H p [v0, v1, v2, v3, v4] ∧ Dp K H v0 d0 ∧ Dp K H v1 d1 ∧ Dp K H v2 d2 ∧ Dp K H v3 d3 ∧ Dp K H v4 d4 := by
  obtain ⟨p, vs, rfl, ht, h0⟩ := dp_tup h
  cases h0 with | cons g0 h1 =>
  cases h1 with | cons g1 h2 =>
  cases h2 with | cons g2 h3 =>
  cases h3 with | cons g3 h4 =>
  cases h4 with | cons g4 h5 =>
  cases h5
  exact ⟨p, _, _, _, _, _, rfl, ht, g0, g1, g2, g3, g4⟩
theorem dp_t6 {K : PySem.W.Frag} {H : Hp} {x : V} {d0 d1 d2 d3 d4 d5 : PyData} (h : Dp K H x (.tuple [d0, d1, d2, d3, d4, d5])) : ∃ p v0 v1 v2 v3 v4 v5, x = .ref p ∧ SqT K H p [v0, v1, v2, v3, v4, v5] ∧ Dp K H v0 d0 ∧ Dp K H v1 d1 ∧ Dp K H v2 d2 ∧ Dp K H v3 d3 ∧ Dp K H v4 d4 ∧ Dp K H v5 d5 := by
  obtain ⟨p, vs, rfl, ht, h0⟩ := dp_tup h
  cases h0 with | cons g0 h1 =>
  cases h1 with | cons g1 h2 =>
  cases h2 with | cons g2 h3 =>
  cases h3 with | cons g3 h4 =>
  cases h4 with | cons g4 h5 =>
  cases h5 with | cons g5 h6 =>
  cases h6
  exact ⟨p, _, _, _, _, _, _, rfl, ht, g0, g1, g2, g3, g4, g5⟩
theorem dp_t7 {K : PySem.W.Frag} {H : Hp} {x : V} {d0 d1 d2 d3 d4 d5 d6 : PyData} (h : Dp K H x (.tuple [d0, d1, d2, d3, d4, d5, d6])) : ∃ p v0 v1 v2 v3 v4 v5 v6, x = .ref p ∧ SqT K H p [v0, v1, v2, v3, v4, v5, v6] ∧ Dp K H v0 d0 ∧ Dp K H v1 d1 ∧ Dp K H v2 d2 ∧ Dp K H v3 d3 ∧ Dp K H v4 d4 ∧ Dp K H v5 d5 ∧ Dp K H v6 d6 := by
  obtain ⟨p, vs, rfl, ht, h0⟩ := dp_tup h
  cases h0 with | cons g0 h1 =>
  cases h1 with | cons g1 h2 =>
  cases h2 with | cons g2 h3 =>
  cases h3 with | cons g3 h4 =>
  cases h4 with | cons g4 h5 =>
  cases h5 with | cons g5 h6 =>
  cases h6 with | cons g6 h7 =>
  cases h7
  exact ⟨p, _, _, _, _, _, _, _, rfl, ht, g0, g1, g2, g3, g4, g5, g6⟩
theorem dp_t8 {K : PySem.W.Frag} {H : Hp} {x : V} {d0 d1 d2 d3 d4 d5 d6 d7 : PyData} (h : Dp K H x (.tuple [d0, d1, d2, d3, d4, d5, d6, d7])) : ∃ p v0 v1 v2 v3 v4 v5 v6 v7, x = .ref p ∧ SqT K H p [v0, v1, v2, v3, v4, v5, v6, v7] ∧ Dp K H v0 d0 ∧ Dp K H v1 d1 ∧ Dp K H v2 d2 ∧ Dp K H v3 d3 ∧ Dp K H v4 d4 ∧ Dp K H v5 d5 ∧ Dp K H v6 d6 ∧ Dp K H v7 d7 := by
  obtain ⟨p, vs, rfl, ht, h0⟩ := dp_tup h
  cases h0 with | cons g0 h1 =>
  cases h1 with | cons g1 h2 =>
  cases h2 with | cons g2 h3 =>
  cases h3 with | cons g3 h4 =>
  cases h4 with | cons g4 h5 =>
  cases h5 with | cons g5 h6 =>
  cases h6 with | cons g6 h7 =>
  cases h7 with | cons g7 h8 =>
  cases h8
  exact ⟨p, _, _, _, _, _, _, _, _, rfl, ht, g0, g1, g2, g3, g4, g5, g6, g7⟩
theorem dp_t9 {K : PySem.W.Frag} {H : Hp} {x : V} {d0 d1 d2 d3 d4 d5 d6 d7 d8 : PyData} (h : Dp K H x (.tuple [d0, d1, d2, d3, d4, d5, d6, d7, d8])) : ∃ p v0 v1 v2 v3 v4 v5 v6 v7 v8, x = .ref p ∧ SqT K H p [v0, v1, v2, v3, v4, v5, v6, v7, v8] ∧ Dp K H v0 d0 ∧ Dp K H v1 d1 ∧ Dp K H v2 d2 ∧ Dp K H v3 d3 ∧ Dp K H v4 d4 ∧ Dp K H v5 d5 ∧ Dp K H v6 d6 ∧ Dp K H v7 d7 ∧ Dp K H v8 d8 := by
  obtain ⟨p, vs, rfl, ht, h0⟩ := dp_tup h
  cases h0 with | cons g0 h1 =>
  cases h1 with | cons g1 h2 =>
  cases h2 with | cons g2 h3 =>
  cases h3 with | cons g3 h4 =>
  cases h4 with | cons g4 h5 =>
  cases h5 with | cons g5 h6 =>
  cases h6 with | cons g6 h7 =>
  cases h7 with | cons g7 h8 =>
  cases h8 with | cons g8 h9 =>
  cases h9
  exact ⟨p, _, _, _, _, _, _, _, _, _, rfl, ht, g0, g1, g2, g3, g4, g5, g6, g7, g8⟩
theorem tf_no {α : Type} {l : List α} {i : Nat} {x : α} {f : α → Bool} (h : l[i]? = some x) (hf : f x = false) : (l.take (i + 1)).filter f = (l.take i).filter f := by
  rw [take_filter f h, hf]
  simp
theorem tf_yes {α : Type} {l : List α} {i : Nat} {x : α} {f : α → Bool} (h : l[i]? = some x) (hf : f x = true) : ((l.take (i + 1)).filter f).length = ((l.take i).filter f).length + 1 := by
  rw [take_filter f h, hf]
  simp
theorem oneS {α β : Type} (f : α → Str) (g : α → β) : ∀ {l : List α} {r : α}, (l.map f).Nodup → r ∈ l → l.filterMap (fun e => if decide (V.str (f e) = V.str (f r)) = true then some (g e) else none) = [g r]
  | [], _, _, h => by cases h
  | x :: l, r, nd, h => by
    rw [List.map_cons] at nd
    obtain ⟨n1, n2⟩ := List.nodup_cons.mp nd
    rcases List.mem_cons.mp h with e | h
    · subst e
      have hn : l.filterMap (fun e => if decide (V.str (f e) = V.str (f r)) = true then some (g e) else none) = [] := by
        rw [List.filterMap_eq_nil_iff]
        intro a ha
        refine if_neg fun z => n1 ?_
        rw [decide_eq_true_iff] at z
        rw [← V.str.inj z]
        exact List.mem_map_of_mem ha
      rw [List.filterMap_cons, if_pos (decide_eq_true rfl), hn]
    · have hx : (if decide (V.str (f x) = V.str (f r)) = true then some (g x) else none) = none := by
        refine if_neg fun z => n1 ?_
        rw [decide_eq_true_iff] at z
        rw [V.str.inj z]
        exact List.mem_map_of_mem h
      rw [List.filterMap_cons, hx]
      exact oneS f g n2 h
theorem fm_some {α β : Type} (f : α → β) (l : List α) : l.filterMap (fun e => some (f e)) = l.map f := by rw [← List.filterMap_eq_map]; rfl
/-! the digits of a script's cell -/
def Digs : List Int → List Int → Prop
  | [], [] => True
  | d :: ds, z :: zs => (0 ≤ d ∧ d < z) ∧ Digs ds zs
  | _, _ => False
theorem digs_snoc : ∀ {ds zs : List Int} {d z : Int}, Digs ds zs → 0 ≤ d → d < z → Digs (ds ++ [d]) (zs ++ [z])
  | [], [], _, _, _, h0, h1 => ⟨⟨h0, h1⟩, trivial⟩
  | _ :: _, _ :: _, _, _, h, h0, h1 => ⟨h.1, digs_snoc h.2 h0 h1⟩
theorem digs_len : ∀ {ds zs : List Int}, Digs ds zs → ds.length = zs.length
  | [], [], _ => rfl
  | _ :: ds, _ :: zs, h => by rw [List.length_cons, List.length_cons, digs_len h.2]
theorem digs1 {ds : List Int} {z : Int} (h : Digs ds [z]) : ∃ d, ds = [d] ∧ 0 ≤ d ∧ d < z := by
  match ds, h with
  | [d], h => exact ⟨d, rfl, h.1.1, h.1.2⟩
  | _ :: _ :: _, h => exact h.2.elim
theorem digs2 {ds : List Int} {z y : Int} (h : Digs ds [z, y]) : ∃ d e, ds = [d, e] ∧ (0 ≤ d ∧ d < z) ∧ (0 ≤ e ∧ e < y) := by
  match ds, h with
  | d :: es, h => obtain ⟨e, rfl, h1⟩ := digs1 h.2; exact ⟨d, e, rfl, h.1, h1⟩
theorem digs3 {ds : List Int} {z y x : Int} (h : Digs ds [z, y, x]) : ∃ d e f, ds = [d, e, f] ∧ (0 ≤ d ∧ d < z) ∧ (0 ≤ e ∧ e < y) ∧ (0 ≤ f ∧ f < x) := by
  match ds, h with
  | d :: es, h => obtain ⟨e, f, rfl, h1⟩ := digs2 h.2; exact ⟨d, e, f, rfl, h.1, h1⟩
theorem digs4 {ds : List Int} {z y x w : Int} (h : Digs ds [z, y, x, w]) : ∃ d e f g, ds = [d, e, f, g] ∧ (0 ≤ d ∧ d < z) ∧ (0 ≤ e ∧ e < y) ∧ (0 ≤ f ∧ f < x) ∧ (0 ≤ g ∧ g < w) := by
  match ds, h with
  | d :: es, h => obtain ⟨e, f, g, rfl, h1⟩ := digs3 h.2; exact ⟨d, e, f, g, rfl, h.1, h1⟩
theorem digs5 {ds : List Int} {z y x w v : Int} (h : Digs ds [z, y, x, w, v]) : ∃ d e f g k, ds = [d, e, f, g, k] ∧ (0 ≤ d ∧ d < z) ∧ (0 ≤ e ∧ e < y) ∧ (0 ≤ f ∧ f < x) ∧ (0 ≤ g ∧ g < w) ∧ (0 ≤ k ∧ k < v) := by
  match ds, h with
  | d :: es, h => obtain ⟨e, f, g, k, rfl, h1⟩ := digs4 h.2; exact ⟨d, e, f, g, k, rfl, h.1, h1⟩
theorem digs6 {ds : List Int} {z y x w v u : Int} (h : Digs ds [z, y, x, w, v, u]) : ∃ d e f g k l, ds = [d, e, f, g, k, l] ∧ (0 ≤ d ∧ d < z) ∧ (0 ≤ e ∧ e < y) ∧ (0 ≤ f ∧ f < x) ∧ (0 ≤ g ∧ g < w) ∧ (0 ≤ k ∧ k < v) ∧ (0 ≤ l ∧ l < u) := by
  match ds, h with
  | d :: es, h => obtain ⟨e, f, g, k, l, rfl, h1⟩ := digs5 h.2; exact ⟨d, e, f, g, k, l, rfl, h.1, h1⟩
theorem digs8 {ds : List Int} {z y x w v u t s : Int} (h : Digs ds [z, y, x, w, v, u, t, s]) : ∃ d e f g k l m n, ds = [d, e, f, g, k, l, m, n] ∧ (0 ≤ d ∧ d < z) ∧ (0 ≤ e ∧ e < y) ∧ (0 ≤ f ∧ f < x) ∧ (0 ≤ g ∧ g < w) ∧ (0 ≤ k ∧ k < v) ∧ (0 ≤ l ∧ l < u) ∧ (0 ≤ m ∧ m < t) ∧ (0 ≤ n ∧ n < s) := by
  match ds, h with
  | d :: e :: es, h => obtain ⟨f, g, k, l, m, n, rfl, h1⟩ := digs6 h.2.2; exact ⟨d, e, f, g, k, l, m, n, rfl, h.1, h.2.1, h1⟩
def sp_num (K : PySem.W.Frag) : Sp := fun vs H Q _ => ∃ (a : Addr) (ns : List Int) (k : Int), vs = [.ref a, .int k] ∧ SqL K H a (ns.map V.int) ∧ (0 ≤ k ∧ k ≤ 10000) ∧ ∀ n : Int, 0 ≤ n → Q (.int n) H
def sp_digits (K : PySem.W.Frag) : Sp := fun vs H Q _ => ∃ (a b : Addr) (ns zs : List Int) (k : Int), vs = [.ref a, .int k, .ref b] ∧ SqL K H a (ns.map V.int) ∧ (0 ≤ k ∧ k ≤ 10000) ∧ SqL K H b (zs.map V.int) ∧ zs.length ≤ 1000 ∧ (∀ z ∈ zs, 0 < z ∧ z < 1073741824) ∧
  ∀ (p : Addr) (H' : Hp) (ds : List Int), H p = none → Same H H' → H' p = some (.lst (ds.map V.int)) → Digs ds zs → Q (.ref p) H'
section
variable {P : Program} {w : World} {K : PySem.W.Frag} {mg : Str → Option Value} {base : Heap}
theorem ok__law_number (T : TX K mg) : FnOk P w K mg base CX0 1 T.a__law_number T.d__law_number ["script", "k"] (sp_num K) := by
  refine T.F__law_number.ok sc__law_number (fun vs H Q E h => ?_) (fun cdv A outer s H vs Q E hr h => ?_)
  · obtain ⟨a, ns, k, rfl, _⟩ := h
    rfl
  · obtain ⟨a, ns, k, rfl, hS, hk, q⟩ := h
    refine ⟨_, (pss_cons (ps_set (i := 2) sc__law_number.nd rfl (Or.inl rfl) (pv 1))
      (C8.pss_cut (ps_if (pt_cmpR op_lt (pv 1) (pe_callB call_len_seq (by rfl) T.n_len PySem.boot_len (pa_cons (pv 0) pa_nil)) (nomark _)) (pss_one (ps_set (i := 2) sc__law_number.nd rfl (Or.inl rfl) (pe_ix ix_list (pv 0) (pv 1) (fun _ _ => rfl)))) pss_nil)
      (pss_cons (ps_if (PW.pt (pw_or (pt_cmpR op_ge (pv 2) (pe_op op_pow pe_int pe_int) (nomark _)) (pw_or1 (pt_cmpR op_lt (pv 2) pe_int (nomark _))))) (pss_one (ps_ret (pe_callB call_abs (by rfl) T.n_abs (by decide +kernel) (pa_cons (pv 2) pa_nil)))) pss_nil)
      (pss_one (ps_ret (pe_op op_mod (pe_callTy call_int1 (by rfl) T.n_int (by decide +kernel) (pa_cons (pe_op op_mul (pe_op op_mod (pe_callTy call_int1 (by rfl) T.n_int (by decide +kernel) (pa_cons (pe_op op_mul (pe_op op_add (pe_op op_add (pv 2) (pe_op op_mul pe_int (pv 1))) pe_int) pe_int) pa_nil)) pe_int) pe_int) pa_nil)) pe_int)))))), ?_⟩
    refine ⟨_, rfl, fun σ' G => H = G ∧ ∃ c : Int, σ' = [some (.ref a), some (.int k), some (.int c)], ?_, ?_⟩
    · refine ⟨.int k, rfl, .ref a, rfl, a, _, rfl, .inl hS, _, _, rfl, rfl, _, rfl, ifd (fun hc => ?_) (fun hc => ?_)⟩
      · rw [List.length_map] at hc
        obtain ⟨m, rfl⟩ := Int.eq_ofNat_of_zero_le hk.1
        have hg : ns[m]? = some ns[m] := List.getElem?_eq_getElem (by omega)
        exact ⟨_, rfl, _, rfl, a, _, _, _, rfl, rfl, hS, at_map hg, rfl, _, rfl⟩
      · exact ⟨rfl, _, rfl⟩
    rintro σ' _ ⟨rfl, c, rfl⟩
    refine ⟨_, rfl, _, _, rfl, rfl, ⟨by decide, by decide, by decide⟩, _, _, rfl, rfl, _, rfl, ifd (fun hb => ?_) (fun hb => ?_)⟩
    · refine ⟨_, rfl, _, rfl, q _ ?_⟩
      split <;> omega
    · refine ⟨_, rfl, _, _, rfl, rfl, _, rfl, ifd (fun hb2 => ?_) (fun hb2 => ?_)⟩
      · refine ⟨_, rfl, _, rfl, q _ ?_⟩
        split <;> omega
      · refine ⟨_, rfl, _, rfl, _, _, rfl, rfl, .inl ⟨by decide, by decide⟩, _, _, rfl, rfl, _, _, rfl, rfl, _, _, rfl, rfl, .inr ⟨by decide, by decide⟩, .inl ⟨_, rfl, _, _, rfl, rfl, (by show (0 : Int) < _; decide), _, _, rfl, rfl, .inr ⟨by decide, by decide⟩, .inl ⟨_, rfl, _, _, rfl, rfl, (by show (0 : Int) < _; decide), q _ (Int.emod_nonneg _ (by decide))⟩⟩⟩
theorem ok__law_digits (T : TX K mg) : FnOk P w K mg base CX0 2 T.a__law_digits T.d__law_digits ["script", "k", "sizes"] (sp_digits K) := by
  refine T.F__law_digits.ok sc__law_digits (fun vs H Q E h => ?_) (fun cdv A outer s H vs Q E hr h => ?_)
  · obtain ⟨a, b, ns, zs, k, rfl, _⟩ := h
    rfl
  · obtain ⟨a, b, ns, zs, k, rfl, hS, hk, hB, hzl, hz, q⟩ := h
    refine ⟨_, (pss_cons (ps_set (i := 3) sc__law_digits.nd rfl (Or.inl rfl) (pe_call (ok__law_number T) (hr.mono (by decide)) (by rfl) T.g__law_number T.F__law_number.kp T.b__law_number .nil pass0 (pa_cons (pv 0) (pa_cons (pv 1) pa_nil))))
      (pss_cons (ps_set (i := 4) sc__law_digits.nd rfl (Or.inl rfl) (pe_lst pa_nil))
      (pss_cons (ps_for PassesOwn.never rfl (pi_list (pv 2)) (pg_name (i := 5) sc__law_digits.nd rfl (Or.inl rfl))
        (pss_cons (ps_expr (pe_bm PySem.F.plainAttrs_list PySem.F.slot_list_append PySem.F.type_list_append mt_append (pv 4) (pa_cons (pe_op op_mod (pe_callTy call_int1 (by rfl) T.n_int (by decide +kernel) (pa_cons (pv 3) pa_nil)) (pv 5)) pa_nil)))
        (pss_one (ps_set (i := 3) sc__law_digits.nd rfl (Or.inl rfl) (pe_op op_fdiv (pe_callTy call_int1 (by rfl) T.n_int (by decide +kernel) (pa_cons (pv 3) pa_nil)) (pv 5))))))
      (pss_one (ps_ret (pv 4)))))), ?_⟩
    refine ⟨_, rfl, _, rfl, a, ns, k, rfl, hS, hk, fun n hn => ?_⟩
    refine ⟨Nat.zero_le _, fun o ho => ?_⟩
    have s1 := same_upd (o := .lst []) ho
    refine ⟨_, rfl, b, rfl, ⟨_, s1.seq hB⟩, for_list (K := K) (a := b) (xs := zs.map V.int) (fun i σ H2 => ∃ (n : Int) (ds : List Int) (x5 : Option V), 0 ≤ n ∧ σ = [some (.ref a), some (.int k), some (.ref b), some (.int n), some (.ref o), x5] ∧ Same H H2 ∧ H2 o = some (.lst (ds.map V.int)) ∧ Digs ds (zs.take i))
      ⟨n, [], none, hn, rfl, s1, upd_same, trivial⟩ (fun i σ H2 _ ⟨_, _, _, _, _, h, _⟩ => h.seq hB) ?_ ?_⟩
    · rintro i x σ H2 hx ⟨n, ds, x5, hn, rfl, g1, g2, g3⟩
      obtain ⟨z, hzi, rfl⟩ := map_at hx
      have z0 := hz z (List.mem_of_getElem? hzi)
      have hl := digs_len g3
      rw [List.length_take] at hl
      refine ⟨_, rfl, .inl ⟨rfl, _, sql g2⟩, _, rfl, .inl ⟨_, rfl, _, rfl, _, _, rfl, rfl, z0.1, o, _, _, rfl, rfl, g2, szl (by rw [List.length_map]; omega), ?_⟩⟩
      refine ⟨_, rfl, .inl ⟨_, rfl, _, rfl, _, _, rfl, rfl, z0, ?_⟩⟩
      refine ⟨n / z, ds ++ [n % z], _, Int.ediv_nonneg hn (by omega), rfl, same_put g1 ho, ?_, ?_⟩
      · rw [upd_same, List.map_append]
        rfl
      · rw [take_more hzi]
        exact digs_snoc g3 (Int.emod_nonneg _ (by omega)) (Int.emod_lt_of_pos _ z0.1)
    · rintro σ H2 ⟨n, ds, x5, hn, rfl, g1, g2, g3⟩
      rw [List.length_map, List.take_length] at g3
      exact ⟨_, rfl, q o _ ds ho g1 g2 g3⟩
end
/-! texts of numbers, items of written lists -/
theorem slen_app (a b : Str) : (a ++ b).length = a.length + b.length := by
  show (a.cps ++ b.cps).size = a.cps.size + b.cps.size
  rw [Array.size_append]
theorem strN_len : ∀ n : Nat, n < 1101 → (Str.ofString (toString (n : Int))).length ≤ 8 := by decide +kernel
theorem strN_log : ∀ n : Nat, n < 1101 → ((n : Int).natAbs).log2 < 1920 := by decide +kernel
theorem strI {i : Int} (h : 0 ≤ i ∧ i ≤ 1100) : i.natAbs.log2 < 1920 ∧ (Str.ofString (toString i)).length ≤ 8 := by
  obtain ⟨n, rfl⟩ := Int.eq_ofNat_of_zero_le h.1
  exact ⟨strN_log n (by omega), strN_len n (by omega)⟩
theorem at_strs {zs : List Str} {i : Int} (h0 : 0 ≤ i) (h1 : i < zs.length) : ∃ z, z ∈ zs ∧ atI (zs.map V.str) i = some (.str z) := by
  obtain ⟨n, rfl⟩ := Int.eq_ofNat_of_zero_le h0
  have hn : n < zs.length := by omega
  exact ⟨zs[n], List.getElem_mem hn, at_map (List.getElem?_eq_getElem hn)⟩
theorem strX {a b : Str} (h : a.cps.toList = b.cps.toList) : a = b := by
  cases a; cases b
  simp only [Str.mk.injEq]
  exact Array.toList_inj.mp h
theorem ok_app (a b : Str) : PyData.strOk (a ++ b) = (PyData.strOk a && PyData.strOk b) := by
  show (a.cps ++ b.cps).all _ = _
  rw [Array.all_append]
  rfl
theorem ok_num : ∀ n : Nat, n < 111 → PyData.strOk (Str.ofString (toString (n : Int))) = true := by decide +kernel
theorem ok_numI {i : Int} (h : 0 ≤ i ∧ i ≤ 110) : PyData.strOk (Str.ofString (toString i)) = true := by
  obtain ⟨n, rfl⟩ := Int.eq_ofNat_of_zero_le h.1
  exact ok_num n (by omega)
theorem app_list (a b : Str) : (a ++ b).cps.toList = a.cps.toList ++ b.cps.toList := by
  show (a.cps ++ b.cps).toList = _
  rw [Array.toList_append]
theorem inV_str (k : Str) : ∀ zs : List Str, inV (.str k) (zs.map V.str) = decide (k ∈ zs)
  | [] => rfl
  | z :: zs => by
    have ih := inV_str k zs
    unfold inV at ih ⊢
    rw [List.map_cons, List.any_cons, ih]
    show ((z == k) || decide (k ∈ zs)) = decide (k ∈ z :: zs)
    by_cases e : k = z
    · subst e
      rw [beq_self_eq_true, Bool.true_or, decide_eq_true List.mem_cons_self]
    · rw [beq_eq_false_iff_ne.mpr (Ne.symm e), Bool.false_or, Bool.eq_iff_iff, decide_eq_true_iff, decide_eq_true_iff, List.mem_cons]
      exact ⟨.inr, fun h => h.resolve_left e⟩
theorem flat_strs : ∀ zs : List Str, (zs.map V.str).all flatV = true
  | [] => rfl
  | _ :: zs => flat_strs zs
/-! order of data: <, min, max, sorted -/
def rLtD (K : PySem.W.Frag) : R2 := fun x y H Q => ∃ d e, Dp K H x d ∧ Dp K H y e ∧ PySem.W.alike d e = true ∧ d ≠ .none ∧ d.depth ≤ 32 ∧ Q (.bl (PySem.W.dataLt d e)) H
theorem vals_gete : ∀ {xs : List V} {us : List Value} {i : Nat} {u : Value} {x : V}, Vals xs us → us[i]? = some u → xs[i]? = some x → RelV x u
  | _, _, _, _, _, .nil, h, _ => by simp at h
  | _, _, 0, _, _, .cons r _, h, g => by cases h; cases g; exact r
  | _, _, i + 1, _, _, .cons _ t, h, g => vals_gete (i := i) t (by simpa using h) (by simpa using g)
section
variable {X : Cx}
theorem op_ltD (hu : X.A.units + 64 < cLine) : OpR X (compareOp .Lt) (rLtD X.K) := by
  intro pins s σ H x y v u Q I rx ry h
  obtain ⟨d, e, hd, he, ha, hn, hdp, q⟩ := h
  obtain ⟨as, r1⟩ := Dp.reads I d x v hd rx
  obtain ⟨bs, r2⟩ := Dp.reads I e y u he ry
  exact PySem.W.lt_data r1 r2 ha hn (by omega) ⟨.bl _, H, I, rfl, q⟩
theorem dp_reads_one {pins : List (Addr × Obj)} {σ : L2.St} {H : Hp} {s : Shared} (I : Inv X pins σ H s) {xs : List V} {ds : List PyData} {us : List Value} (h : DpAll X.K H xs ds) (r : Vals xs us) {i : Nat} {u : Value} (hu : us[i]? = some u) :
    ∃ x d, xs[i]? = some x ∧ ds[i]? = some d ∧ RelV x u ∧ Dp X.K H x d ∧ ∃ as, Reads s.heap u d as := by
  have hl := r.length
  have hi := (List.getElem?_eq_some_iff.mp hu).1
  have hx : xs[i]? = some xs[i] := List.getElem?_eq_getElem (by omega)
  obtain ⟨d, hd, hdp⟩ := dpa_at h hx
  have ru : RelV xs[i] u := vals_gete r hu hx
  obtain ⟨as, hr⟩ := Dp.reads I d _ u hdp ru
  exact ⟨_, d, hx, hd, ru, hdp, as, hr⟩
/-- min of a list of data -/
def rMinD (K : PySem.W.Frag) : List V → Hp → VK → Prop := fun vs H Q => ∃ (a : Addr) (xs : List V) (x : PyData) (ds : List PyData), vs = [.ref a] ∧ SqL K H a xs ∧ DpAll K H xs (x :: ds) ∧ PySem.W.AlikeAll (x :: ds) ∧ PyData.depthAll (x :: ds) ≤ 32 ∧
  ∀ v, Dp K H v (PySem.W.minD x ds) → Q v H
theorem cr_minD (hc : X.calm = true) (hu : X.A.units + 64 < cLine) : CallR X (.builtin "min") (rMinD X.K) := by
  intro pins s σ H vs us Q I r h
  obtain ⟨a, xs, x, ds, rfl, hs, hx, ha, hdp, q⟩ := h
  obtain ⟨its, rv, hl, _⟩ := I.list hs
  rw [Vals.ref1 r]
  obtain ⟨as, hr⟩ := Dp.readsAll I _ _ _ hx rv
  refine PySem.W.min_list_data (I.ok.hd hc) hl.isList (by simpa using hr) ha (by omega) fun i v h' tk bs hv rv' hk => ?_
  obtain ⟨y, d, hy, hd, ry, hD, cs, rd⟩ := dp_reads_one I hx rv (u := v) (i := i) (by simpa using hv)
  have hm : PySem.W.minD x ds ∈ x :: ds := by
    have go : ∀ (l : List PyData) (z : PyData), l.foldl (fun a y => if PySem.W.dataLt y a then y else a) z ∈ z :: l := by
      intro l
      induction l with
      | nil => intro z; exact List.mem_cons_self
      | cons b l ih =>
        intro z
        rw [List.foldl_cons]
        have := ih (if PySem.W.dataLt b z then b else z)
        rcases List.mem_cons.mp this with e | e
        · rw [e]
          split
          · exact List.mem_cons_of_mem _ List.mem_cons_self
          · exact List.mem_cons_self
        · exact List.mem_cons_of_mem _ (List.mem_cons_of_mem _ e)
    exact go ds x
  have e : d = PySem.W.minD x ds := PySem.W.alike_unique d _ v cs bs (ha.1 d (List.mem_of_getElem? hd) _ hm) (PySem.W.reads_keeps hk rd) rv'
  rw [e] at hD
  exact ⟨y, H, I.kept hk, ry, q y hD⟩
/-- sorted of a list of data -/
def leD (d e : PyData) : Bool := !PySem.W.dataLt e d
def rSortedD (K : PySem.W.Frag) : List V → Hp → VK → Prop := fun vs H Q => ∃ (a : Addr) (xs : List V) (ds : List PyData), vs = [.ref a] ∧ SqL K H a xs ∧ DpAll K H xs ds ∧ PySem.W.AllAlike ds ∧ PySem.W.Sortable ds ∧ (∀ d ∈ ds, d.depth ≤ 32) ∧
  ∀ ys p, H p = none → DpAll K H ys (ds.mergeSort leD) → (∀ y ∈ ys, y ∈ xs) → Q (.ref p) (upd H p (.lst ys))
theorem each_zip {R : Value → V × PyData → Prop} : ∀ {us : List Value} {bs : List (V × PyData)}, PySem.W.EachIs R us bs → (∀ u b, R u b → RelV b.1 u) → Vals (bs.map (·.1)) us
  | _, _, .nil, _ => .nil
  | _, _, .cons h t, k => .cons (k _ _ h) (each_zip t k)
theorem zip_dpa {K : PySem.W.Frag} {H : Hp} : ∀ {bs : List (V × PyData)}, (∀ b ∈ bs, Dp K H b.1 b.2) → DpAll K H (bs.map (·.1)) (bs.map (·.2))
  | [], _ => .nil
  | b :: bs, h => .cons (h b List.mem_cons_self) (zip_dpa fun c hc => h c (List.mem_cons_of_mem _ hc))
theorem dpa_zip {K : PySem.W.Frag} {H : Hp} : ∀ {xs : List V} {ds : List PyData}, DpAll K H xs ds → ∀ b ∈ xs.zip ds, Dp K H b.1 b.2
  | _, _, .nil, _, h => by cases h
  | _, _, .cons h t, b, hb => by
    rcases List.mem_cons.mp hb with e | e
    · rw [e]; exact h
    · exact dpa_zip t b e
theorem each_of {pins : List (Addr × Obj)} {σ : L2.St} {H : Hp} {s : Shared} (I : Inv X pins σ H s) : ∀ {xs : List V} {ds : List PyData} {us : List Value}, DpAll X.K H xs ds → Vals xs us →
    PySem.W.EachIs (fun u b => RelV b.1 u) us (xs.zip ds) ∧ PySem.W.EachIs (fun v (b : V × PyData) => ∃ as, Reads s.heap v b.2 as) us (xs.zip ds)
  | _, _, _, .nil, .nil => ⟨.nil, .nil⟩
  | _, _, _, .cons h t, .cons r rs => by
    obtain ⟨h1, h2⟩ := each_of I t rs
    exact ⟨.cons r h1, .cons (Dp.reads I _ _ _ h r) h2⟩
theorem cr_sortedD (hu : X.A.units + 64 < cLine) : CallR X (.builtin "sorted") (rSortedD X.K) := by
  intro pins s σ H vs us Q I r h
  obtain ⟨a, xs, ds, rfl, hs, hx, hal, hso, hdp, q⟩ := h
  obtain ⟨its, rv, hl, hz⟩ := I.list hs
  rw [Vals.ref1 r]
  obtain ⟨e1, e2⟩ := each_of I hx rv
  have hlen : xs.length = ds.length := dpa_len hx
  have hsnd : (xs.zip ds).map (·.2) = ds := List.map_snd_zip (by omega)
  have hfst : (xs.zip ds).map (·.1) = xs := List.map_fst_zip (by omega)
  refine PySem.W.sorted_data (bs := xs.zip ds) (enc := (·.2)) hl.isList e1 e2 (by rw [hsnd]; exact hal) (by rw [hsnd]; exact hso) (by rw [List.length_zip]; omega) (fun b hb => ?_) fun out ho he => ?_
  · have := hdp b.2 (by rw [← hsnd]; exact List.mem_map_of_mem hb)
    omega
  · have hmem : ∀ b ∈ (xs.zip ds).mergeSort (PySem.W.dataLe false (·.2)), b ∈ xs.zip ds := fun b hb => (List.mergeSort_perm _ _).mem_iff.mp hb
    have hv : Vals (((xs.zip ds).mergeSort (PySem.W.dataLe false (·.2))).map (·.1)) out := each_zip he fun _ _ h => h
    have hD := zip_dpa fun b hb => dpa_zip hx b (hmem b hb)
    have hsm : ((xs.zip ds).mergeSort (PySem.W.dataLe false (·.2))).map (·.2) = ds.mergeSort leD := by
      have hm := PySem.W.sort_maps (f := fun b : V × PyData => b.2) (l := xs.zip ds) (r := PySem.W.dataLe false (fun b : V × PyData => b.2)) (s := leD) (fun a _ b _ => rfl)
      rw [hsnd] at hm
      exact hm
    rw [hsm] at hD
    obtain ⟨ep, hat⟩ := PyProof.Rows.sortedAll_at s.heap its (List.toArray out)
    have hn : H (s.heap.objs.size + 1) = none := I.hok.fresh (Nat.le_succ _)
    refine ⟨.ref _, upd H (s.heap.objs.size + 1) (.lst (((xs.zip ds).mergeSort (PySem.W.dataLe false (·.2))).map (·.1))), I.laid (t' := s.toks) (fun _ _ => PyProof.Rows.sortedAll_old) (Nat.le_succ _) ⟨?_, out, ep, hv, hat⟩, rfl, q _ _ hn hD fun y hy => ?_⟩
    · rw [List.length_map, List.length_mergeSort, List.length_zip]
      omega
    · obtain ⟨b, hb, rfl⟩ := List.mem_map.mp hy
      exact (List.of_mem_zip (hmem b hb)).1
end
/-- what sorting gives: the same, in order -/
theorem sortD_perm (ds : List PyData) : (ds.mergeSort leD).Perm ds := List.mergeSort_perm _ _
/-! room on a node -/
structure Nd where
  size : Int
  used : Int
  life : Int
  lost : Int
  zone : Str
def Nd.d (n : Nd) : PyData := .tuple [.int n.size, .int n.used, .int n.life, .int n.lost, .str n.zone]
def tkD (born need : Int) (z : Str) : PyData := .tuple [.int born, .str "run", .int need, .str "new", .int 0, .str "", .int 0, .str z]
def Nd.free (n : Nd) (as : Int) : Int := n.size - n.used - as
def openB (n : Nd) : Bool := decide (V.int n.lost = V.int 0) && decide (1 ≤ n.life)
def zoneB (z : Str) (n : Nd) : Bool := inV (.str z) [.str "", .str n.zone]
def fitsB (need : Int) (z : Str) (n : Nd) (dr : Bool) (as : Int) : Bool := !dr && openB n && zoneB z n && decide (need ≤ n.free as)
def sp_free (K : PySem.W.Frag) : Sp := fun vs H Q _ => ∃ (v : V) (n : Nd) (as : Int), vs = [v, .int as] ∧ Dp K H v n.d ∧ Q (.int (n.free as)) H
def sp_open (K : PySem.W.Frag) : Sp := fun vs H Q _ => ∃ (v : V) (n : Nd), vs = [v] ∧ Dp K H v n.d ∧ ∀ b, b = openB n → Q (.bl b) H
def sp_fits (K : PySem.W.Frag) : Sp := fun vs H Q _ => ∃ (t v : V) (n : Nd) (born need : Int) (z : Str) (dr : Bool) (as : Int), vs = [t, v, .bl dr, .int as] ∧ Dp K H t (tkD born need z) ∧ Dp K H v n.d ∧ ∀ b H', b = fitsB need z n dr as → Same H H' → Q (.bl b) H'
def sp_zone : Sp := fun vs H Q _ => ∃ (i : Int), vs = [.int i] ∧ (0 ≤ i ∧ i < 3) ∧ ∀ z H', z ∈ ([Str.ofString "", Str.ofString "a", Str.ofString "b"] : List Str) → Same H H' → Q (.str z) H'
section
variable {P : Program} {w : World} {K : PySem.W.Frag} {mg : Str → Option Value} {base : Heap}
theorem ok_free_size (T : TX K mg) : FnOk P w K mg base CX0 1 T.a_free_size T.d_free_size ["node_value", "assumed"] (sp_free K) := by
  refine T.F_free_size.ok sc_free_size (fun vs H Q E h => ?_) (fun cdv A outer s H vs Q E hr h => ?_)
  · obtain ⟨v, n, as, rfl, _⟩ := h
    rfl
  · obtain ⟨v, n, as, rfl, hv, q⟩ := h
    refine ⟨_, (pss_cons (ps_asg (pv 0) (pg_tup (by rfl) (pgs_cons (pg_name (i := 2) sc_free_size.nd rfl (Or.inl rfl)) (pgs_cons (pg_name (i := 3) sc_free_size.nd rfl (Or.inl rfl)) (pgs_cons (pg_name (i := 4) sc_free_size.nd rfl (Or.inl rfl)) (pgs_cons (pg_name (i := 4) sc_free_size.nd rfl (Or.inl rfl)) (pgs_cons (pg_name (i := 4) sc_free_size.nd rfl (Or.inl rfl)) pgs_nil)))))))
      (pss_one (ps_ret (pe_op op_sub (pe_op op_sub (pv 2) (pv 3)) (pv 1))))), ?_⟩
    obtain ⟨p, v0, v1, v2, v3, v4, rfl, ht, ⟨⟩, ⟨⟩, ⟨⟩, ⟨⟩, ⟨⟩⟩ := dp_t5 hv
    refine ⟨_, rfl, p, _, rfl, ht, rfl, _, _, rfl, _, _, rfl, _, _, rfl, _, _, rfl, _, _, rfl, rfl, ?_⟩
    exact ⟨_, rfl, _, rfl, _, _, rfl, rfl, _, rfl, _, _, rfl, rfl, q⟩
theorem ok_is_open (T : TX K mg) : FnOk P w K mg base CX0 1 T.a_is_open T.d_is_open ["node_value"] (sp_open K) := by
  refine T.F_is_open.ok sc_is_open (fun vs H Q E h => ?_) (fun cdv A outer s H vs Q E hr h => ?_)
  · obtain ⟨v, n, rfl, _⟩ := h
    rfl
  · obtain ⟨v, n, rfl, hv, q⟩ := h
    refine ⟨_, (pss_cons (ps_asg (pv 0) (pg_tup (by rfl) (pgs_cons (pg_name (i := 1) sc_is_open.nd rfl (Or.inl rfl)) (pgs_cons (pg_name (i := 1) sc_is_open.nd rfl (Or.inl rfl)) (pgs_cons (pg_name (i := 2) sc_is_open.nd rfl (Or.inl rfl)) (pgs_cons (pg_name (i := 3) sc_is_open.nd rfl (Or.inl rfl)) (pgs_cons (pg_name (i := 1) sc_is_open.nd rfl (Or.inl rfl)) pgs_nil)))))))
      (pss_one (ps_ret (pe_and (pe_cmpR op_eq (pv 3) pe_int (nomark _)) (pe_one (pe_cmpR op_ge (pv 2) pe_int (nomark _))))))), ?_⟩
    obtain ⟨p, v0, v1, v2, v3, v4, rfl, ht, ⟨⟩, ⟨⟩, ⟨⟩, ⟨⟩, ⟨⟩⟩ := dp_t5 hv
    refine ⟨_, rfl, p, _, rfl, ht, rfl, _, _, rfl, _, _, rfl, _, _, rfl, _, _, rfl, _, _, rfl, rfl, ?_⟩
    refine ⟨_, rfl, rfl, _, rfl, ifd (fun h => ?_) (fun h => ?_)⟩
    · exact ⟨_, rfl, _, _, rfl, rfl, q _ (by simp [openB, h])⟩
    · exact q _ (by simp [openB, h])
theorem ok_fits (T : TX K mg) : FnOk P w K mg base CX0 2 T.a_fits T.d_fits ["task_value", "node_value", "drained", "assumed"] (sp_fits K) := by
  refine T.F_fits.ok sc_fits (fun vs H Q E h => ?_) (fun cdv A outer s H vs Q E hr h => ?_)
  · obtain ⟨t, v, n, born, need, z, dr, as, rfl, _⟩ := h
    rfl
  · obtain ⟨t, v, n, born, need, z, dr, as, rfl, ht, hv, q⟩ := h
    refine ⟨_, (pss_cons (ps_asg (pv 1) (pg_tup (by rfl) (pgs_cons (pg_name (i := 4) sc_fits.nd rfl (Or.inl rfl)) (pgs_cons (pg_name (i := 4) sc_fits.nd rfl (Or.inl rfl)) (pgs_cons (pg_name (i := 4) sc_fits.nd rfl (Or.inl rfl)) (pgs_cons (pg_name (i := 4) sc_fits.nd rfl (Or.inl rfl)) (pgs_cons (pg_name (i := 5) sc_fits.nd rfl (Or.inl rfl)) pgs_nil)))))))
      (pss_cons (ps_if (PW.pt (pw_or (pt_val (pv 2)) (pw_or (pt_not (pt_val (pe_call (ok_is_open T) (hr.mono (by decide)) (by rfl) T.g_is_open T.F_is_open.kp T.b_is_open .nil pass0 (pa_cons (pv 1) pa_nil)))) (pw_or1 (pt_cmpR op_notIn_seq (pe_ix ix_tup (pv 0) (pe_glob (v := .int 7) (by rfl) T.c_ZONE ⟨_, rfl⟩) (fun _ _ => rfl)) (pe_tup (pa_cons pe_str (pa_cons (pv 5) pa_nil))) rfl))))) (pss_one (ps_ret pe_bl)) pss_nil)
      (pss_one (ps_ret (pe_cmpR op_le (pe_ix ix_tup (pv 0) (pe_glob (v := .int 2) (by rfl) T.c_SIZE ⟨_, rfl⟩) (fun _ _ => rfl)) (pe_call (ok_free_size T) (hr.mono (by decide)) (by rfl) T.g_free_size T.F_free_size.kp T.b_free_size .nil pass0 (pa_cons (pv 1) (pa_cons (pv 3) pa_nil))) (nomark _)))))), ?_⟩
    obtain ⟨p, v0, v1, v2, v3, v4, rfl, hp, ⟨⟩, ⟨⟩, ⟨⟩, ⟨⟩, ⟨⟩⟩ := dp_t5 hv
    obtain ⟨p2, v0, v1, v2, v3, v4, v5, v6, v7, rfl, hp2, ⟨⟩, ⟨⟩, ⟨⟩, ⟨⟩, ⟨⟩, ⟨⟩, ⟨⟩, ⟨⟩⟩ := dp_t8 ht
    refine ⟨_, rfl, p, _, rfl, hp, rfl, _, _, rfl, _, _, rfl, _, _, rfl, _, _, rfl, _, _, rfl, rfl, ?_⟩
    refine ⟨_, rfl, _, rfl, ifb2 (fun h1 => ?_) (fun h1 => ?_)⟩
    · exact q _ _ (by simp [fitsB, h1]) (Same.refl _)
    · refine ⟨_, rfl, _, n, rfl, hv, fun b hb => ⟨_, rfl, ?_⟩⟩
      refine ifb2 (fun h2 => ?_) (fun h2 => ?_)
      · refine q _ _ ?_ (Same.refl _)
        rw [hb] at h2
        simp only [Bool.not_eq_true'] at h2
        simp [fitsB, h2]
      · rw [hb] at h2
        simp only [Bool.not_eq_false'] at h2
        refine ⟨_, rfl, p2, _, 7, _, rfl, rfl, hp2, atI_nat (j := 7) rfl, _, rfl, (by show 2 ≤ sizeLine; decide), fun u hu => ?_⟩
        have s1 := same_upd (o := .tup [.str "", .str n.zone]) hu
        refine ⟨u, _, rfl, .inr (sqt upd_same), rfl, rfl, _, rfl, ?_⟩
        refine ifb2 (fun h3 => ?_) (fun h3 => ?_)
        · refine q _ _ ?_ s1
          have h3' : zoneB z n = false := by unfold zoneB; simpa using h3
          simp [fitsB, h3']
        · have h3' : zoneB z n = true := by unfold zoneB; simpa using h3
          refine ⟨_, rfl, p2, _, 2, _, rfl, rfl, sqt_same s1 hp2, atI_nat (j := 2) rfl, _, rfl, _, rfl, _, n, as, rfl, dp_same s1 _ hv, _, _, rfl, rfl, q _ _ ?_ s1⟩
          simp [fitsB, h1, h2, h3']
theorem ok__law_zone (T : TX K mg) : FnOk P w K mg base CX0 1 T.a__law_zone T.d__law_zone ["digit"] sp_zone := by
  refine T.F__law_zone.ok sc__law_zone (fun vs H Q E h => ?_) (fun cdv A outer s H vs Q E hr h => ?_)
  · obtain ⟨i, rfl, _⟩ := h
    rfl
  · obtain ⟨i, rfl, hi, q⟩ := h
    refine ⟨_, (pss_cons (ps_set (i := 1) sc__law_zone.nd rfl (Or.inl rfl) (pe_lst (pa_cons pe_str (pa_cons pe_str (pa_cons pe_str pa_nil)))))
      (pss_one (ps_ret (pe_ix ix_list (pv 1) (pv 0) (fun _ _ => rfl))))), ?_⟩
    refine ⟨(by show 3 ≤ sizeLine; decide), fun p hp => ?_⟩
    obtain ⟨z, hz, e⟩ := at_strs (zs := ["", "a", "b"]) (i := i) hi.1 (by show i < 3; omega)
    exact ⟨_, rfl, _, rfl, p, _, i, .str z, rfl, rfl, sql upd_same, e, q z _ hz (same_upd hp)⟩
end
structure N5 where
  name : Str
  nd : Nd
  dr : Bool
  as : Int
  same : Int
def N5.d (e : N5) : PyData := .tuple [.str e.name, e.nd.d, .bool e.dr, .int e.as, .int e.same]
def rkD (need : Int) (e : N5) : PyData := .tuple [.int e.same, .int (e.nd.free e.as - need), .str e.name]
def fit5 (need : Int) (z : Str) (e : N5) : Bool := fitsB need z e.nd e.dr e.as
def fitL (need : Int) (z : Str) (es : List N5) : List N5 := es.filter (fit5 need z)
def lfB (need : Int) (z : Str) (e : N5) : Bool := decide (V.int e.nd.lost = V.int 0) && !decide (e.nd.life < 1) && !e.dr && (decide (V.str z = V.str "") || decide (V.str z = V.str e.nd.zone)) && decide (need ≤ e.nd.free e.as)
theorem lf_fits (need : Int) (z : Str) (e : N5) : lfB need z e = fit5 need z e := by
  have e1 : zoneB z e.nd = (decide (V.str z = V.str "") || decide (V.str z = V.str e.nd.zone)) := by
    show inV (.str z) ([Str.ofString "", e.nd.zone].map V.str) = _
    rw [inV_str, Bool.eq_iff_iff]
    simp
  have e3 : (!decide (e.nd.life < 1)) = decide (1 ≤ e.nd.life) := by
    rw [Bool.eq_iff_iff]
    simp
  unfold lfB fit5 fitsB openB
  rw [e1, e3]
  cases e.dr <;> cases decide (V.int e.nd.lost = V.int 0) <;> cases decide (1 ≤ e.nd.life) <;> rfl
def sp_choose (K : PySem.W.Frag) : Sp := fun vs H Q _ => ∃ (t : V) (a : Addr) (xs : List V) (es : List N5) (born need : Int) (z : Str), vs = [t, .ref a] ∧ Dp K H t (tkD born need z) ∧ SqL K H a xs ∧ DpAll K H xs (es.map N5.d) ∧ es.length ≤ 1000 ∧
  ∀ (nm : Str) (H' : Hp), Same H H' → ((fitL need z es = [] ∧ nm = "") ∨ ∃ e ∈ fitL need z es, nm = e.name ∧ ∀ y ∈ fitL need z es, PySem.W.dataLt (rkD need y) (rkD need e) = false) → Q (.str nm) H'
def sp_node (K : PySem.W.Frag) : Sp := fun vs H Q _ => ∃ (a : Addr) (ns : List Int) (k at_ : Int) (nm : Str), vs = [.ref a, .int k, .int at_] ∧ SqL K H a (ns.map V.int) ∧ (0 ≤ k ∧ k ≤ 1000) ∧
  atI (([Str.ofString "w2", Str.ofString "w10", Str.ofString "w1", Str.ofString "a", Str.ofString "b9", Str.ofString "zz", Str.ofString "w11", Str.ofString "m", Str.ofString "w3", Str.ofString "n0", Str.ofString "aa", Str.ofString "w20"] : List Str).map V.str) at_ = some (.str nm) ∧
  ∀ (p : Addr) (e : N5) (H' : Hp), e.name = nm → PyData.strOk e.nd.zone = true → H p = none → Same H H' → (∀ G, (∀ b o, H b = none → H' b = some o → G b = some o) → Dp K G (.ref p) e.d) → Q (.ref p) H'
def sp_lfits (K : PySem.W.Frag) : Sp := fun vs H Q _ => ∃ (t v : V) (e : N5) (born need : Int) (z : Str), vs = [t, v] ∧ Dp K H t (tkD born need z) ∧ Dp K H v e.d ∧ ∀ b, b = fit5 need z e → Q (.bl b) H
def sp_rank (K : PySem.W.Frag) : Sp := fun vs H Q _ => ∃ (t v : V) (e : N5) (born need : Int) (z : Str), vs = [t, v] ∧ Dp K H t (tkD born need z) ∧ Dp K H v e.d ∧ ∀ p H', Same H H' → Dp K H' (.ref p) (rkD need e) → Q (.ref p) H'
def sp_law (K : PySem.W.Frag) : Sp := fun vs H Q _ => ∃ (a : Addr) (ns : List Int), vs = [.ref a] ∧ SqL K H a (ns.map V.int) ∧ ns.length ≤ 63 ∧ ∀ H', Q (.bl true) H'
/-! the least of some data -/
theorem leD_total : PySem.W.TotalLe leD := PySem.W.sortLe_total (listOrd itemOrd) false fun d : PyData => PySem.W.keyToks d
theorem minD_mem : ∀ (l : List PyData) (z : PyData), PySem.W.minD z l ∈ z :: l := by
  intro l
  induction l with
  | nil => intro z; exact List.mem_cons_self
  | cons b l ih =>
    intro z
    show PySem.W.minD (if PySem.W.dataLt b z then b else z) l ∈ _
    have := ih (if PySem.W.dataLt b z then b else z)
    rcases List.mem_cons.mp this with e | e
    · rw [e]
      split
      · exact List.mem_cons_of_mem _ List.mem_cons_self
      · exact List.mem_cons_self
    · exact List.mem_cons_of_mem _ (List.mem_cons_of_mem _ e)
theorem minD_le : ∀ (l : List PyData) (z : PyData), leD (PySem.W.minD z l) z = true ∧ ∀ y ∈ l, leD (PySem.W.minD z l) y = true := by
  intro l
  induction l with
  | nil =>
    intro z
    exact ⟨leD_total.refl z, fun _ h => by cases h⟩
  | cons b l ih =>
    intro z
    show leD (PySem.W.minD (if PySem.W.dataLt b z then b else z) l) z = true ∧ ∀ y ∈ b :: l, leD (PySem.W.minD (if PySem.W.dataLt b z then b else z) l) y = true
    obtain ⟨h1, h2⟩ := ih (if PySem.W.dataLt b z then b else z)
    have hz : leD (if PySem.W.dataLt b z then b else z) z = true := by
      by_cases h : PySem.W.dataLt b z = true
      · rw [if_pos h]
        rcases leD_total.total b z with g | g
        · exact g
        · unfold leD at g
          rw [h] at g
          cases g
      · rw [if_neg h]
        exact leD_total.refl z
    have hb : leD (if PySem.W.dataLt b z then b else z) b = true := by
      by_cases h : PySem.W.dataLt b z = true
      · rw [if_pos h]
        exact leD_total.refl b
      · rw [if_neg h]
        unfold leD
        simpa using h
    refine ⟨leD_total.trans _ _ _ h1 hz, fun y hy => ?_⟩
    rcases List.mem_cons.mp hy with e | hy
    · rw [e]
      exact leD_total.trans _ _ _ h1 hb
    · exact h2 y hy
theorem leD_lt {a b : PyData} (h : leD a b = true) : PySem.W.dataLt b a = false := by unfold leD at h; simpa using h
theorem rk_alike (need : Int) (l : List N5) : PySem.W.AlikeAll (l.map (rkD need)) := ⟨fun x hx y hy => by
    obtain ⟨e, _, rfl⟩ := List.mem_map.mp hx
    obtain ⟨f, _, rfl⟩ := List.mem_map.mp hy
    rfl, fun x hx => by
    obtain ⟨e, _, rfl⟩ := List.mem_map.mp hx
    intro h
    cases h⟩
theorem rk_depth (need : Int) : ∀ l : List N5, PyData.depthAll (l.map (rkD need)) ≤ 32
  | [] => by simp [PyData.depthAll]
  | e :: l => by
    have := rk_depth need l
    simp [rkD, PyData.depthAll, PyData.depth] at this ⊢
    omega
section
variable {P : Program} {w : World} {K : PySem.W.Frag} {mg : Str → Option Value} {base : Heap}
theorem ok_choose_node (T : TX K mg) : FnOk P w K mg base CX0 3 T.a_choose_node T.d_choose_node ["task_value", "nodes"] (sp_choose K) := by
  refine T.F_choose_node.ok sc_choose_node (fun vs H Q E h => ?_) (fun cdv A outer s H vs Q E hr h => ?_)
  · obtain ⟨t, a, xs, es, born, need, z, rfl, _⟩ := h
    rfl
  · obtain ⟨t, a, xs, es, born, need, z, rfl, hT, hL, hx, hl, q⟩ := h
    refine ⟨_, (pss_cons (ps_set (i := 2) sc_choose_node.nd rfl (Or.inl rfl) (pe_lst pa_nil))
      (pss_cons (ps_for PassesOwn.never rfl (pi_list (pv 1)) (pg_tup (by rfl) (pgs_cons (pg_name (i := 3) sc_choose_node.nd rfl (Or.inl rfl)) (pgs_cons (pg_name (i := 4) sc_choose_node.nd rfl (Or.inl rfl)) (pgs_cons (pg_name (i := 5) sc_choose_node.nd rfl (Or.inl rfl)) (pgs_cons (pg_name (i := 6) sc_choose_node.nd rfl (Or.inl rfl)) (pgs_cons (pg_name (i := 7) sc_choose_node.nd rfl (Or.inl rfl)) pgs_nil))))))
        (pss_one (ps_if (pt_val (pe_call (ok_fits T) (hr.mono (by decide)) (by rfl) T.g_fits T.F_fits.kp T.b_fits .nil pass0 (pa_cons (pv 0) (pa_cons (pv 4) (pa_cons (pv 5) (pa_cons (pv 6) pa_nil)))))) (pss_one (ps_expr (pe_bm PySem.F.plainAttrs_list PySem.F.slot_list_append PySem.F.type_list_append mt_append (pv 2) (pa_cons (pe_tup (pa_cons (pv 7) (pa_cons (pe_op op_sub (pe_call (ok_free_size T) (hr.mono (by decide)) (by rfl) T.g_free_size T.F_free_size.kp T.b_free_size .nil pass0 (pa_cons (pv 4) (pa_cons (pv 6) pa_nil))) (pe_ix ix_tup (pv 0) (pe_glob (v := .int 2) (by rfl) T.c_SIZE ⟨_, rfl⟩) (fun _ _ => rfl))) (pa_cons (pv 3) pa_nil)))) pa_nil)))) pss_nil)))
      (pss_cons (ps_if (pt_not (pt_truth (pv 2) (by intro _; rfl))) (pss_one (ps_ret pe_str)) pss_nil)
      (pss_one (ps_ret (pe_ix ix_tup (pe_callB (cr_minD rfl hr.units) (by rfl) T.n_min (by decide +kernel) (pa_cons (pv 2) pa_nil)) pe_int (fun _ _ => rfl))))))), ?_⟩
    refine nrm8 rfl ?_
    refine ⟨Nat.zero_le _, fun R hR => ?_⟩
    refine gnm8 rfl ?_
    obtain ⟨pt, w0, w1, w2, w3, w4, w5, w6, w7, ept, hpt, ⟨⟩, ⟨⟩, ⟨⟩, ⟨⟩, ⟨⟩, ⟨⟩, ⟨⟩, ⟨⟩⟩ := dp_t8 hT
    refine ⟨_, rfl, a, rfl, ⟨_, (same_upd hR).seq hL⟩, for_list (K := K) (a := a) (xs := xs) (fun i σ G => ∃ x3 x4 x5 x6 x7 rs, σ = [some t, some (.ref a), some (.ref R), x3, x4, x5, x6, x7] ∧ Same H G ∧ G R = some (.lst rs) ∧ (∀ G'', Same H G'' → Off R G G'' → DpAll K G'' rs ((fitL need z (es.take i)).map (rkD need))))
      ⟨none, none, none, none, none, [], rfl, same_upd hR, upd_same, fun _ _ _ => .nil⟩ (fun i σ G _ ⟨_, _, _, _, _, _, _, h, _⟩ => h.seq hL) ?_ ?_⟩
    · rintro i x σ G hx1 ⟨x3, x4, x5, x6, x7, rs, rfl, g1, g2, g3⟩
      obtain ⟨d, hd, hdp⟩ := dpa_at hx hx1
      rw [List.getElem?_map] at hd
      cases he : es[i]? with
      | none => rw [he] at hd; cases hd
      | some e =>
        rw [he] at hd
        cases hd
        have htf := take_filter (fit5 need z) he
        obtain ⟨p, v0, v1, v2, v3, v4, rfl, ht, ⟨⟩, hv, ⟨⟩, ⟨⟩, ⟨⟩⟩ := dp_t5 hdp
        have ht := sqt_same g1 ht
        refine ⟨p, _, rfl, ht, rfl, _, _, rfl, _, _, rfl, _, _, rfl, _, _, rfl, _, _, rfl, rfl, ?_⟩
        refine nrm8 rfl ?_
        refine ⟨_, rfl, _, rfl, _, rfl, _, rfl, t, v1, e.nd, born, need, z, e.dr, e.as, rfl, dp_same g1 _ hT, dp_same g1 _ hv, fun b G2 hb s2 => ⟨_, rfl, ifb2 (fun h1 => ?_) (fun h1 => ?_)⟩⟩
        · have g4 := g1.trans s2
          have e2 := s2 _ _ g2
          refine ⟨_, rfl, .inl ⟨rfl, _, sql e2⟩, _, rfl, _, rfl, _, rfl, v1, e.nd, e.as, rfl, dp_same g4 _ hv, _, ept ▸ rfl, pt, _, 2, _, rfl, rfl, sqt_same g4 hpt, atI_nat (j := 2) rfl, _, _, rfl, rfl, _, rfl, (by show 3 ≤ sizeLine; decide), fun u hu => ?_⟩
          dsimp only
          have hl1 : rs.length = (fitL need z (es.take i)).length := by have := dpa_len (g3 G g1 (Off.refl _ _)); rwa [List.length_map] at this
          have hl2 : (fitL need z (es.take i)).length ≤ es.length := by
            unfold fitL
            exact Nat.le_trans (List.length_filter_le _ _) (by rw [List.length_take]; omega)
          have nuR : R ≠ u := ne_of_none e2 hu
          refine ⟨R, rs, _, rfl, rfl, by rw [upd_ne nuR]; exact e2, szl (by omega), ?_⟩
          refine ⟨_, _, _, _, _, rs ++ [.ref u], rfl, same_put (g4.trans (same_upd hu)) hR, upd_same, fun G'' s9 o => ?_⟩
          have hf : fit5 need z e = true := by rw [← h1, hb]; rfl
          show DpAll K G'' _ ((List.filter (fit5 need z) (es.take (i + 1))).map (rkD need))
          rw [htf, hf, List.map_append]
          refine dpa_app (g3 G'' s9 (Off.pre (s2.trans (same_upd hu)) o.put)) (.cons (.tup (sqt (o.put u _ nuR.symm upd_same)) (.cons (.int _) (.cons (.int _) (.cons (.str _) .nil)))) .nil)
        · have hf : fit5 need z e = false := by rw [← h1, hb]; rfl
          refine ⟨_, _, _, _, _, rs, rfl, g1.trans s2, s2 _ _ g2, fun G'' s9 o => ?_⟩
          show DpAll K G'' _ ((List.filter (fit5 need z) (es.take (i + 1))).map (rkD need))
          rw [htf, hf]
          simp only [Bool.false_eq_true, if_false, List.append_nil]
          exact g3 G'' s9 (Off.pre s2 o)
    rintro σ G ⟨x3, x4, x5, x6, x7, rs, rfl, g1, g2, g3⟩
    have hxl : xs.length = es.length := by have := dpa_len hx; rwa [List.length_map] at this
    rw [hxl, List.take_length] at g3
    have hrs := g3 G g1 (Off.refl _ _)
    cases hf : fitL need z es with
    | nil =>
      rw [hf] at hrs
      obtain rfl := dpa_nil hrs
      exact ⟨_, rfl, true ^^ true, .inl ⟨_, sql g2, rfl⟩, ifbt rfl (q _ _ g1 (.inl ⟨hf, rfl⟩))⟩
    | cons e0 l =>
      rw [hf] at hrs
      obtain ⟨r0, rs', rfl, _, _⟩ := dpa_cons hrs
      refine ⟨_, rfl, true, .inl ⟨_, sql g2, rfl⟩, ifbf rfl ?_⟩
      refine ⟨_, rfl, R, _, rkD need e0, l.map (rkD need), rfl, sql g2, hrs, rk_alike need (e0 :: l), rk_depth need (e0 :: l), fun v hv => ?_⟩
      have hm := minD_mem (l.map (rkD need)) (rkD need e0)
      have hmin := minD_le (l.map (rkD need)) (rkD need e0)
      obtain ⟨e, he, hee⟩ : ∃ e ∈ e0 :: l, rkD need e = PySem.W.minD (rkD need e0) (l.map (rkD need)) := by
        have : PySem.W.minD (rkD need e0) (l.map (rkD need)) ∈ (e0 :: l).map (rkD need) := hm
        obtain ⟨e, h1, h2⟩ := List.mem_map.mp this
        exact ⟨e, h1, h2⟩
      rw [← hee] at hv hmin
      obtain ⟨p, v0, v1, v2, rfl, ht, ⟨⟩, ⟨⟩, ⟨⟩⟩ := dp_t3 hv
      refine ⟨p, _, 2, _, rfl, rfl, ht, atI_nat (j := 2) rfl, q _ _ g1 (.inr ⟨e, by rw [hf]; exact he, rfl, fun y hy => ?_⟩)⟩
      rw [hf] at hy
      rcases List.mem_cons.mp hy with e1 | hy
      · rw [e1]; exact leD_lt hmin.1
      · exact leD_lt (hmin.2 _ (List.mem_map_of_mem hy))
end
def nm12 : List Str := [Str.ofString "w2", Str.ofString "w10", Str.ofString "w1", Str.ofString "a", Str.ofString "b9", Str.ofString "zz", Str.ofString "w11", Str.ofString "m", Str.ofString "w3", Str.ofString "n0", Str.ofString "aa", Str.ofString "w20"]
theorem zone_ok : ∀ z ∈ ([Str.ofString "", Str.ofString "a", Str.ofString "b"] : List Str), PyData.strOk z = true := by decide +kernel
theorem nm_ok : ∀ z ∈ nm12, PyData.strOk z = true := by decide +kernel
section
variable {P : Program} {w : World} {K : PySem.W.Frag} {mg : Str → Option Value} {base : Heap}
theorem ok__law_node (T : TX K mg) : FnOk P w K mg base CX0 3 T.a__law_node T.d__law_node ["script", "k", "at"] (sp_node K) := by
  refine T.F__law_node.ok sc__law_node (fun vs H Q E h => ?_) (fun cdv A outer s H vs Q E hr h => ?_)
  · obtain ⟨a, ns, k, at_, nm, rfl, _⟩ := h
    rfl
  · obtain ⟨a, ns, k, at_, nm, rfl, hS, hk, hat, q⟩ := h
    refine ⟨_, (pss_cons (ps_set (i := 3) sc__law_node.nd rfl (Or.inl rfl) (pe_lst (pa_cons pe_str (pa_cons pe_str (pa_cons pe_str (pa_cons pe_str (pa_cons pe_str (pa_cons pe_str (pa_cons pe_str (pa_cons pe_str (pa_cons pe_str (pa_cons pe_str (pa_cons pe_str (pa_cons pe_str pa_nil))))))))))))))
      (pss_cons (ps_asg (pe_call (ok__law_digits T) (hr.mono (by decide)) (by rfl) T.g__law_digits T.F__law_digits.kp T.b__law_digits .nil pass0 (pa_cons (pv 0) (pa_cons (pv 1) (pa_cons (pe_lst (pa_cons pe_int (pa_cons pe_int (pa_cons pe_int (pa_cons pe_int (pa_cons pe_int (pa_cons pe_int (pa_cons pe_int (pa_cons pe_int pa_nil))))))))) pa_nil)))) (pg_unl rfl (pgs_cons (pg_name (i := 4) sc__law_node.nd rfl (Or.inl rfl)) (pgs_cons (pg_name (i := 5) sc__law_node.nd rfl (Or.inl rfl)) (pgs_cons (pg_name (i := 6) sc__law_node.nd rfl (Or.inl rfl)) (pgs_cons (pg_name (i := 7) sc__law_node.nd rfl (Or.inl rfl)) (pgs_cons (pg_name (i := 8) sc__law_node.nd rfl (Or.inl rfl)) (pgs_cons (pg_name (i := 9) sc__law_node.nd rfl (Or.inl rfl)) (pgs_cons (pg_name (i := 10) sc__law_node.nd rfl (Or.inl rfl)) (pgs_cons (pg_name (i := 11) sc__law_node.nd rfl (Or.inl rfl)) pgs_nil))))))))))
      (pss_cons (ps_set (i := 12) sc__law_node.nd rfl (Or.inl rfl) (pe_tup (pa_cons (pe_op op_add pe_int (pv 4)) (pa_cons (pv 5) (pa_cons (pv 6) (pa_cons (pe_op op_fdiv (pv 7) pe_int) (pa_cons (pe_call (ok__law_zone T) (hr.mono (by decide)) (by rfl) T.g__law_zone T.F__law_zone.kp T.b__law_zone .nil pass0 (pa_cons (pv 8) pa_nil)) pa_nil)))))))
      (pss_one (ps_ret (pe_tup (pa_cons (pe_ix ix_list (pv 3) (pv 2) (fun _ _ => rfl)) (pa_cons (pv 12) (pa_cons (pe_cmpR op_eq (pv 9) pe_int (nomark _)) (pa_cons (pv 10) (pa_cons (pv 11) pa_nil))))))))))), ?_⟩
    refine nrm13 rfl ?_
    refine ⟨(by show 12 ≤ sizeLine; decide), fun p1 h1 => ?_⟩
    have s1 := same_upd (o := .lst (nm12.map V.str)) h1
    have e1 := upd_same (H := H) (a := p1) (o := .lst (nm12.map V.str))
    refine gnm13 rfl ?_
    refine ⟨_, rfl, _, rfl, (by show 8 ≤ sizeLine; decide), fun z hz => ?_⟩
    have s3 := s1.trans (same_upd (o := .lst [.int 6, .int 4, .int 5, .int 6, .int 3, .int 5, .int 3, .int 3]) hz)
    have e1 := same_upd (o := .lst [.int 6, .int 4, .int 5, .int 6, .int 3, .int 5, .int 3, .int 3]) hz _ _ e1
    refine ⟨a, z, ns, [6, 4, 5, 6, 3, 5, 3, 3], k, rfl, s3.seq hS, ⟨by omega, by omega⟩, sql upd_same, by decide, (by simp), fun p H3 ds hp s4 e4 hd => ?_⟩
    obtain ⟨size, used, life, lost, zone, drain, assumed, same, rfl, b1, b2, b3, b4, b5, b6, b7, b8⟩ := digs8 hd
    have s5 := s3.trans s4
    have e1 := s4 _ _ e1
    clear s1 s3 s4 hz hp h1
    refine ⟨p, _, rfl, sql e4, rfl, _, _, rfl, _, _, rfl, _, _, rfl, _, _, rfl, _, _, rfl, _, _, rfl, _, _, rfl, _, _, rfl, rfl, ?_⟩
    refine nrm13 rfl ?_
    refine ⟨_, rfl, _, _, rfl, rfl, _, rfl, _, rfl, _, rfl, _, _, rfl, rfl, ⟨by decide, by decide⟩, _, rfl, _, rfl, b5, fun zn H4 hzn s6 => ⟨(by show 5 ≤ sizeLine; decide), fun p5 h5 => ?_⟩⟩
    dsimp only
    have s7 := (s5.trans s6).trans (same_upd (o := .tup [.int (4 + size), .int used, .int life, .int (lost / 5), .str zn]) h5)
    have e5 := upd_same (H := H4) (a := p5) (o := .tup [.int (4 + size), .int used, .int life, .int (lost / 5), .str zn])
    have e1 := same_upd (o := .tup [.int (4 + size), .int used, .int life, .int (lost / 5), .str zn]) h5 _ _ (s6 _ _ e1)
    have f5 := (s5.trans s6).free h5
    generalize upd H4 p5 (.tup [.int (4 + size), .int used, .int life, .int (lost / 5), .str zn]) = H5 at s7 e5 e1
    refine gnm13 rfl ?_
    refine ⟨_, rfl, _, rfl, p1, _, at_, .str nm, rfl, rfl, sql e1, hat, _, rfl, _, rfl, rfl, _, rfl, _, rfl, (by show 5 ≤ sizeLine; decide), fun p6 h6 => ?_⟩
    have n56 : p5 ≠ p6 := ne_of_none e5 h6
    refine q p6 ⟨nm, ⟨4 + size, used, life, lost / 5, zn⟩, decide (V.int drain = V.int 0), assumed, same⟩ _ rfl (zone_ok zn hzn) (s7.free h6) (s7.trans (same_upd h6)) fun G g => ?_
    have g5 := g p5 _ f5 (by rw [upd_ne n56]; exact e5)
    have g6 := g p6 _ (s7.free h6) upd_same
    exact .tup (sqt g6) (.cons (.str _) (.cons (.tup (sqt g5) (.cons (.int _) (.cons (.int _) (.cons (.int _) (.cons (.int _) (.cons (.str _) .nil)))))) (.cons (.bl _) (.cons (.int _) (.cons (.int _) .nil)))))
theorem ok__law_fits (T : TX K mg) : FnOk P w K mg base CX0 1 T.a__law_fits T.d__law_fits ["task", "node"] (sp_lfits K) := by
  refine T.F__law_fits.ok sc__law_fits (fun vs H Q E h => ?_) (fun cdv A outer s H vs Q E hr h => ?_)
  · obtain ⟨t, v, e, born, need, z, rfl, _⟩ := h
    rfl
  · obtain ⟨t, v, e, born, need, z, rfl, ht, hv, q⟩ := h
    refine ⟨_, (pss_cons (ps_set (i := 2) sc__law_fits.nd rfl (Or.inl rfl) (pe_ix ix_tup (pv 1) pe_int (fun _ _ => rfl)))
      (pss_cons (ps_if (PW.pt (pw_or (pt_cmpR op_ne (pe_ix ix_tup (pv 2) pe_int (fun _ _ => rfl)) pe_int (nomark _)) (pw_or (pt_cmpR op_lt (pe_ix ix_tup (pv 2) pe_int (fun _ _ => rfl)) pe_int (nomark _)) (pw_or1 (pt_val (pe_ix ix_tup (pv 1) pe_int (fun _ _ => rfl))))))) (pss_one (ps_ret pe_bl)) pss_nil)
      (pss_cons (ps_if (PW.pt (pw_and (pt_cmpR op_ne (pe_ix ix_tup (pv 0) pe_int (fun _ _ => rfl)) pe_str (nomark _)) (pw_and1 (pt_cmpR op_ne (pe_ix ix_tup (pv 0) pe_int (fun _ _ => rfl)) (pe_ix ix_tup (pv 2) pe_int (fun _ _ => rfl)) (nomark _))))) (pss_one (ps_ret pe_bl)) pss_nil)
      (pss_one (ps_ret (pe_cmpR op_le (pe_ix ix_tup (pv 0) pe_int (fun _ _ => rfl)) (pe_op op_sub (pe_op op_sub (pe_ix ix_tup (pv 2) pe_int (fun _ _ => rfl)) (pe_ix ix_tup (pv 2) pe_int (fun _ _ => rfl))) (pe_ix ix_tup (pv 1) pe_int (fun _ _ => rfl))) (nomark _))))))), ?_⟩
    rw [← lf_fits] at q
    obtain ⟨p, u0, u1, u2, u3, u4, rfl, hp, ⟨⟩, hn, ⟨⟩, ⟨⟩, ⟨⟩⟩ := dp_t5 hv
    obtain ⟨pn, y0, y1, y2, y3, y4, rfl, hpn, ⟨⟩, ⟨⟩, ⟨⟩, ⟨⟩, ⟨⟩⟩ := dp_t5 hn
    obtain ⟨p2, v0, v1, v2, v3, v4, v5, v6, v7, rfl, hp2, ⟨⟩, ⟨⟩, ⟨⟩, ⟨⟩, ⟨⟩, ⟨⟩, ⟨⟩, ⟨⟩⟩ := dp_t8 ht
    refine ⟨_, rfl, p, _, 1, _, rfl, rfl, hp, atI_nat (j := 1) rfl, ?_⟩
    skip
    refine ⟨_, rfl, pn, _, 3, _, rfl, rfl, hpn, atI_nat (j := 3) rfl, rfl, _, rfl, ifn (fun h1 => ?_) (fun h1 => ?_)⟩
    · exact q _ (by simp [lfB, h1])
    · refine ⟨_, rfl, pn, _, 2, _, rfl, rfl, hpn, atI_nat (j := 2) rfl, _, _, rfl, rfl, _, rfl, ifd (fun h2 => ?_) (fun h2 => ?_)⟩
      · exact q _ (by simp [lfB, h2])
      · refine ⟨_, rfl, p, _, 2, _, rfl, rfl, hp, atI_nat (j := 2) rfl, _, rfl, ifb2 (fun h3 => ?_) (fun h3 => ?_)⟩
        · exact q _ (by simp [lfB, h3])
        · have k : (decide (V.str z = V.str "") || decide (V.str z = V.str e.nd.zone)) = true → ∀ b, b = decide (need ≤ e.nd.free e.as) → Q (.bl b) H := fun h b hb => q b (by rw [hb]; simp only [lfB, h, h1, h2, h3]; simp)
          refine ⟨_, rfl, p2, _, 7, _, rfl, rfl, hp2, atI_nat (j := 7) rfl, rfl, _, rfl, ifn (fun h4 => ?_) (fun h4 => ifbf rfl ?_)⟩
          · refine ⟨_, rfl, p2, _, 7, _, rfl, rfl, hp2, atI_nat (j := 7) rfl, _, rfl, pn, _, 4, _, rfl, rfl, hpn, atI_nat (j := 4) rfl, rfl, _, rfl, ifn (fun h5 => ?_) (fun h5 => ?_)⟩
            · exact q _ (by simp only [lfB, h4, h5]; simp)
            · exact ⟨_, rfl, p2, _, 2, _, rfl, rfl, hp2, atI_nat (j := 2) rfl, _, rfl, pn, _, 0, _, rfl, rfl, hpn, atI_nat (j := 0) rfl, _, rfl, pn, _, 1, _, rfl, rfl, hpn, atI_nat (j := 1) rfl, _, _, rfl, rfl, _, rfl, p, _, 3, _, rfl, rfl, hp, atI_nat (j := 3) rfl, _, _, rfl, rfl, _, _, rfl, rfl, k (by simp only [h5]; simp) _ rfl⟩
          · exact ⟨_, rfl, p2, _, 2, _, rfl, rfl, hp2, atI_nat (j := 2) rfl, _, rfl, pn, _, 0, _, rfl, rfl, hpn, atI_nat (j := 0) rfl, _, rfl, pn, _, 1, _, rfl, rfl, hpn, atI_nat (j := 1) rfl, _, _, rfl, rfl, _, rfl, p, _, 3, _, rfl, rfl, hp, atI_nat (j := 3) rfl, _, _, rfl, rfl, _, _, rfl, rfl, k (by simp only [h4]; simp) _ rfl⟩
theorem ok__law_rank (T : TX K mg) : FnOk P w K mg base CX0 1 T.a__law_rank T.d__law_rank ["task", "node"] (sp_rank K) := by
  refine T.F__law_rank.ok sc__law_rank (fun vs H Q E h => ?_) (fun cdv A outer s H vs Q E hr h => ?_)
  · obtain ⟨t, v, e, born, need, z, rfl, _⟩ := h
    rfl
  · obtain ⟨t, v, e, born, need, z, rfl, ht, hv, q⟩ := h
    refine ⟨_, (pss_one (ps_ret (pe_tup (pa_cons (pe_ix ix_tup (pv 1) pe_int (fun _ _ => rfl)) (pa_cons (pe_op op_sub (pe_op op_sub (pe_op op_sub (pe_ix ix_tup (pe_ix ix_tup (pv 1) pe_int (fun _ _ => rfl)) pe_int (fun _ _ => rfl)) (pe_ix ix_tup (pe_ix ix_tup (pv 1) pe_int (fun _ _ => rfl)) pe_int (fun _ _ => rfl))) (pe_ix ix_tup (pv 1) pe_int (fun _ _ => rfl))) (pe_ix ix_tup (pv 0) pe_int (fun _ _ => rfl))) (pa_cons (pe_ix ix_tup (pv 1) pe_int (fun _ _ => rfl)) pa_nil)))))), ?_⟩
    obtain ⟨p, u0, u1, u2, u3, u4, rfl, hp, ⟨⟩, hn, ⟨⟩, ⟨⟩, ⟨⟩⟩ := dp_t5 hv
    obtain ⟨pn, y0, y1, y2, y3, y4, rfl, hpn, ⟨⟩, ⟨⟩, ⟨⟩, ⟨⟩, ⟨⟩⟩ := dp_t5 hn
    obtain ⟨p2, v0, v1, v2, v3, v4, v5, v6, v7, rfl, hp2, ⟨⟩, ⟨⟩, ⟨⟩, ⟨⟩, ⟨⟩, ⟨⟩, ⟨⟩, ⟨⟩⟩ := dp_t8 ht
    refine ⟨_, rfl, p, _, 4, _, rfl, rfl, hp, atI_nat (j := 4) rfl, _, rfl, p, _, 1, _, rfl, rfl, hp, atI_nat (j := 1) rfl, pn, _, 0, _, rfl, rfl, hpn, atI_nat (j := 0) rfl, _, rfl, p, _, 1, _, rfl, rfl, hp, atI_nat (j := 1) rfl, pn, _, 1, _, rfl, rfl, hpn, atI_nat (j := 1) rfl, _, _, rfl, rfl, _, rfl, p, _, 3, _, rfl, rfl, hp, atI_nat (j := 3) rfl, _, _, rfl, rfl, _, rfl, p2, _, 2, _, rfl, rfl, hp2, atI_nat (j := 2) rfl, _, _, rfl, rfl, _, rfl, p, _, 0, _, rfl, rfl, hp, atI_nat (j := 0) rfl, (by show 3 ≤ sizeLine; decide), fun u hu => ?_⟩
    exact q u _ (same_upd hu) (.tup (sqt upd_same) (.cons (.int _) (.cons (.int _) (.cons (.str _) .nil))))
theorem flat5 {e : N5} (h1 : PyData.strOk e.name = true) (h2 : PyData.strOk e.nd.zone = true) : Flat 2 e.d := by
  refine flat_tup (n := 1) fun d hd => ?_
  simp only [List.mem_cons, List.not_mem_nil, or_false] at hd
  rcases hd with rfl | rfl | rfl | rfl | rfl
  · exact flat_str _ _ h1
  · refine flat_tup (n := 0) fun d hd => ?_
    simp only [List.mem_cons, List.not_mem_nil, or_false] at hd
    rcases hd with rfl | rfl | rfl | rfl | rfl
    iterate 4 exact flat_int _ _
    exact flat_str _ _ h2
  · exact flat_bl _ _
  · exact flat_int _ _
  · exact flat_int _ _
theorem nm_inj : ∀ i : Nat, i < 12 → ∀ j : Nat, j < 12 → ∀ z, nm12[i]? = some z → nm12[j]? = some z → i = j := by
  intro i hi j hj z h1 h2
  have : nm12.Nodup := by decide +kernel
  exact (List.getElem?_inj (by show i < 12; exact hi) this).mp (h1.trans h2.symm)
theorem ok_law (T : TX K mg) : FnOk P w K mg base CX0 4 T.a_law T.d_law ["script"] (sp_law K) := by
  refine T.F_law.ok sc_law (fun vs H Q E h => ?_) (fun cdv A outer s H vs Q E hr h => ?_)
  · obtain ⟨a, ns, rfl, _⟩ := h
    rfl
  · obtain ⟨a, ns, rfl, hS, hlen, q⟩ := h
    refine ⟨_, (pss_cons (ps_asg (pe_call (ok__law_digits T) (hr.mono (by decide)) (by rfl) T.g__law_digits T.F__law_digits.kp T.b__law_digits .nil pass0 (pa_cons (pv 0) (pa_cons pe_int (pa_cons (pe_lst (pa_cons pe_int (pa_cons pe_int (pa_cons pe_int (pa_cons pe_int pa_nil))))) pa_nil)))) (pg_unl rfl (pgs_cons (pg_name (i := 1) sc_law.nd rfl (Or.inl rfl)) (pgs_cons (pg_name (i := 2) sc_law.nd rfl (Or.inl rfl)) (pgs_cons (pg_name (i := 3) sc_law.nd rfl (Or.inl rfl)) (pgs_cons (pg_name (i := 4) sc_law.nd rfl (Or.inr rfl)) pgs_nil))))))
      (pss_cons (ps_set (i := 5) sc_law.nd rfl (Or.inr rfl) (pe_tup (pa_cons pe_int (pa_cons pe_str (pa_cons (pv 1) (pa_cons pe_str (pa_cons pe_int (pa_cons pe_str (pa_cons pe_int (pa_cons (pe_call (ok__law_zone T) (hr.mono (by decide)) (by rfl) T.g__law_zone T.F__law_zone.kp T.b__law_zone .nil pass0 (pa_cons (pe_callB (call_max2 rfl) (by rfl) T.n_max (by decide +kernel) (pa_cons pe_int (pa_cons (pe_op op_sub (pv 2) pe_int) pa_nil))) pa_nil)) pa_nil))))))))))
      (pss_cons (ps_setLc (i := 6) (own := [("k", 12)]) (g := gName 12) (tt := tYes) (by rfl) sc_law.nd rfl rfl (sw_true rfl rfl rfl (by decide +kernel)) (pi_range1 (by rfl) T.n_range (pa_cons (pv 3) pa_nil)) (blkOk_by (own := [("k", 12)]) (N := ["script", "need", "place", "size", "turn", "task", "nodes", "kept", "actual", "fitting", "chosen", "node", "k"]) (sc := defScope s_law) (by decide +kernel)) (fun _ _ _ _ _ => pg_name (i := 12) sc_law.nd rfl (Or.inl rfl)) (fun _ _ _ _ _ => pts_nil) (fun _ _ _ _ _ => (pe_call (ok__law_node T) (hr.mono (by decide)) (by rfl) T.g__law_node T.F__law_node.kp T.b__law_node .nil pass0 (pa_cons (pv 0) (pa_cons (pe_op op_add pe_int (pv 12)) (pa_cons (pe_op op_mod (pe_callTy call_int1 (by rfl) T.n_int (by decide +kernel) (pa_cons (pe_op op_add (pv 12) (pv 4)) pa_nil)) pe_int) pa_nil))))))
      (pss_cons (ps_setLc (i := 7) (own := [("node", 11)]) (g := gName 11) (tt := tYes) (by rfl) sc_law.nd rfl rfl (sw_true rfl rfl rfl (by decide +kernel)) (pi_list (pv 6)) (blkOk_by (own := [("node", 11)]) (N := ["script", "need", "place", "size", "turn", "task", "nodes", "kept", "actual", "fitting", "chosen", "node", "k"]) (sc := defScope s_law) (by decide +kernel)) (fun _ _ _ _ _ => pg_name (i := 11) sc_law.nd rfl (Or.inl rfl)) (fun _ _ _ _ _ => pts_nil) (fun _ _ _ _ _ => (pv 11)))
      (pss_cons (ps_set (i := 8) sc_law.nd rfl (Or.inr rfl) (pe_call (ok_choose_node T) (hr.mono (by decide)) (by rfl) T.g_choose_node T.F_choose_node.kp T.b_choose_node .nil pass0 (pa_cons (pv 5) (pa_cons (pv 6) pa_nil))))
      (pss_cons (ps_if (PW.pt (pw_or (pt_cmpR (op_neD hr.units) (pv 6) (pv 7) (nomark _)) (pw_or1 (pt_not (pt_val (pe_callB call_isi (by rfl) T.n_isinstance (by decide +kernel) (pa_cons (pv 8) (pa_cons (pe_bltn (v := .ty "str") (u := .type "str") (by rfl) T.n_str (by decide +kernel) rfl) pa_nil)))))))) (pss_one (ps_ret pe_bl)) pss_nil)
      (pss_cons (ps_setLc (i := 9) (own := [("node", 11)]) (g := gName 11)  (by rfl) sc_law.nd rfl rfl (sw_true rfl rfl rfl (by decide +kernel)) (pi_list (pv 7)) (blkOk_by (own := [("node", 11)]) (N := ["script", "need", "place", "size", "turn", "task", "nodes", "kept", "actual", "fitting", "chosen", "node", "k"]) (sc := defScope s_law) (by decide +kernel)) (fun _ _ _ _ _ => pg_name (i := 11) sc_law.nd rfl (Or.inl rfl)) (fun _ _ _ _ _ => pts_one (pt_val (pe_call (ok__law_fits T) (hr.mono (by decide)) (by rfl) T.g__law_fits T.F__law_fits.kp T.b__law_fits .nil pass0 (pa_cons (pv 5) (pa_cons (pv 11) pa_nil))))) (fun _ _ _ _ _ => (pv 11)))
      (pss_cons (ps_if (pt_cmpR (op_eqD hr.units) (pv 9) (pe_lst pa_nil) (nomark _)) (pss_one (ps_ret (pe_cmpR op_eq (pv 8) pe_str (nomark _)))) pss_nil)
      (pss_cons (ps_setLc (i := 10) (own := [("node", 11)]) (g := gName 11)  (by rfl) sc_law.nd rfl rfl (sw_true rfl rfl rfl (by decide +kernel)) (pi_list (pv 9)) (blkOk_by (own := [("node", 11)]) (N := ["script", "need", "place", "size", "turn", "task", "nodes", "kept", "actual", "fitting", "chosen", "node", "k"]) (sc := defScope s_law) (by decide +kernel)) (fun _ _ _ _ _ => pg_name (i := 11) sc_law.nd rfl (Or.inl rfl)) (fun _ _ _ _ _ => pts_one (pt_cmpR op_eq (pe_ix (ixK_tup (K := K) rfl) (pv 11) pe_int (fun _ _ => rfl)) (pv 8) (nomark _))) (fun _ _ _ _ _ => (pv 11)))
      (pss_cons (ps_if (pt_cmpR op_ne (pe_callB call_len_seq (by rfl) T.n_len PySem.boot_len (pa_cons (pv 10) pa_nil)) pe_int (nomark _)) (pss_one (ps_ret pe_bl)) pss_nil)
      (pss_cons (ps_for PassesOwn.never rfl (pi_list (pv 9)) (pg_name (i := 11) sc_law.nd rfl (Or.inl rfl))
        (pss_one (ps_if (pt_cmpR (op_ltD hr.units) (pe_call (ok__law_rank T) (hr.mono (by decide)) (by rfl) T.g__law_rank T.F__law_rank.kp T.b__law_rank .nil pass0 (pa_cons (pv 5) (pa_cons (pv 11) pa_nil))) (pe_call (ok__law_rank T) (hr.mono (by decide)) (by rfl) T.g__law_rank T.F__law_rank.kp T.b__law_rank .nil pass0 (pa_cons (pv 5) (pa_cons (pe_ix ix_list (pv 10) pe_int (fun _ _ => rfl)) pa_nil))) (nomark _)) (pss_one (ps_ret pe_bl)) pss_nil)))
      (pss_one (ps_ret pe_bl))))))))))))), ?_⟩
    refine nrm13 rfl ?_
    refine ⟨_, rfl, (by show 4 ≤ sizeLine; decide), fun z hz => ?_⟩
    have s1 := same_upd (o := .lst [.int 8, .int 4, .int 13, .int 12]) hz
    refine ⟨a, z, ns, [8, 4, 13, 12], 0, rfl, s1.seq hS, ⟨by omega, by omega⟩, sql upd_same, by decide, (by simp), fun p H1 ds hp s2 e2 hd => ?_⟩
    obtain ⟨need, place, size, turn, rfl, b1, b2, b3, b4⟩ := digs4 hd
    have s3 := s1.trans s2
    refine ⟨p, _, rfl, sql e2, rfl, _, _, rfl, _, _, rfl, _, _, rfl, _, _, rfl, rfl, ?_⟩
    refine nrm13 rfl ?_
    have hS1 := s3.seq hS
    clear s1 s2 e2 hd hp hz
    obtain ⟨tn, rfl⟩ := Int.eq_ofNat_of_zero_le b4.1
    -- task
    refine ⟨_, rfl, _, rfl, _, _, rfl, rfl, _, _, rfl, ?_⟩
    dsimp only
    refine ⟨_, rfl, (by split <;> omega), fun zt H2 hzt s4 => ⟨(by show 8 ≤ sizeLine; decide), fun pt hpt => ?_⟩⟩
    have s5 := s4.trans (same_upd (o := .tup [.int 1, .str "run", .int need, .str "new", .int 0, .str "", .int 0, .str zt]) hpt)
    have dT : Dp K (upd H2 pt (.tup [.int 1, .str "run", .int need, .str "new", .int 0, .str "", .int 0, .str zt])) (.ref pt) (tkD 1 need zt) := .tup (sqt upd_same) (.cons (.int _) (.cons (.str _) (.cons (.int _) (.cons (.str _) (.cons (.int _) (.cons (.str _) (.cons (.int _) (.cons (.str _) .nil))))))))
    have hS2 := s5.seq hS1
    generalize upd H2 pt (.tup [.int 1, .str "run", .int need, .str "new", .int 0, .str "", .int 0, .str zt]) = H3 at s5 dT hS2
    clear s4 hpt
    refine gnm13 rfl ?_
    -- nodes
    refine ⟨_, rfl, size, rfl, by omega, by omega, fun D hD => ?_⟩
    refine lcg (K := K) (walk_range (lo := 0) (n := size.toNat)) (fun i ds => ∃ es : List N5, ds = es.map N5.d ∧ es.length = i ∧ ∀ j e, es[j]? = some e → nm12[(j + tn) % 12]? = some e.name ∧ PyData.strOk e.nd.zone = true) ⟨[], rfl, rfl, fun j e h => by simp at h⟩ hD (fun _ _ => trivial) (by omega) ?_ ?_
    · rintro i x G G1 ds hi s6 ⟨l, hl⟩ ⟨es, rfl, he, hok⟩ ⟨rfl, rfl⟩ J j1 j2
      refine ⟨rfl, ?_⟩
      dsimp only [tYes]
      refine (if_pos rfl).mpr ?_
      have hm : (i + tn) % 12 < nm12.length := by show _ < 12; omega
      have hat : atI (nm12.map V.str) ((0 + (i : Int) + (tn : Int)) % 12) = some (.str nm12[(i + tn) % 12]) := by
        rw [show ((0 + (i : Int) + (tn : Int)) % 12) = (((i + tn) % 12 : Nat) : Int) by omega]
        exact at_map (List.getElem?_eq_getElem hm)
      refine ⟨_, rfl, _, rfl, _, _, rfl, rfl, _, rfl, _, rfl, _, _, rfl, rfl, .inl ⟨_, rfl, _, _, rfl, rfl, (by show (0 : Int) < _; decide), a, ns, _, _, _, rfl, s6.seq hS2, ⟨by omega, by omega⟩, hat, fun p e H' hnm hzo hp s7 hdp => ?_⟩⟩
      refine j2 _ e.d H' s7 (fun G'' s8 o => hdp G'' fun b u hb hb' => o b u (fun z => by rw [z, hl] at hb; cases hb) hb') ⟨es ++ [e], by simp, by simp [he], fun j e' hj => ?_⟩
      rcases Nat.lt_or_ge j es.length with h | h
      · rw [List.getElem?_append_left h] at hj
        exact hok j e' hj
      · rw [List.getElem?_append_right h] at hj
        have hj0 : j = i := by
          have := (List.getElem?_eq_some_iff.mp hj).1
          simp only [List.length_cons, List.length_nil] at this
          omega
        subst hj0
        rw [he, Nat.sub_self] at hj
        cases hj
        exact ⟨by rw [hnm]; exact List.getElem?_eq_getElem hm, hzo⟩
    rintro H4 ys _ s6 e4 h4 ⟨es, rfl, hes, hok⟩
    have hel : es.length ≤ 12 := by omega
    have hnd : (es.map (·.name)).Nodup := by
      refine List.pairwise_iff_getElem.mpr fun i j hi hj hij z => ?_
      rw [List.length_map] at hi hj
      rw [List.getElem_map, List.getElem_map] at z
      have h1 := (hok i _ (List.getElem?_eq_getElem hi)).1
      have h2 := (hok j _ (List.getElem?_eq_getElem hj)).1
      rw [← z] at h2
      have := nm_inj _ (Nat.mod_lt _ (by decide)) _ (Nat.mod_lt _ (by decide)) _ h1 h2
      omega
    have hfe : ∀ e ∈ es, Flat 2 e.d := fun e he => by
      obtain ⟨j, hj, rfl⟩ := List.getElem_of_mem he
      have := hok j _ (List.getElem?_eq_getElem hj)
      exact flat5 (nm_ok _ (List.mem_of_getElem? this.1)) this.2
    have hfl : ∀ l : List N5, (∀ e ∈ l, e ∈ es) → Flat 3 (.list (l.map N5.d)) := fun l hl => flat_list (n := 2) fun d hd => by
      obtain ⟨e, he, rfl⟩ := List.mem_map.mp hd
      exact hfe e (hl e he)
    have dT := dp_same s6 _ dT
    clear s5 s6 hS2 hS1 s3 hD
    refine gnm13 rfl ?_
    -- kept
    refine ⟨_, rfl, D, rfl, ⟨_, sql e4⟩, fun D2 hD2 => ?_⟩
    refine lcd (K := K) es N5.d (fun e => some e.d) hD2 (sql e4) h4 (by omega) ?_ ?_
    · intro x e G he s5 _ hdp J j1 j2
      refine ⟨rfl, ?_⟩
      dsimp only [tYes]
      refine (if_pos rfl).mpr ?_
      exact ⟨_, rfl, j2 _ _ G (Same.refl _) (fun G'' s6 _ => dp_same s6 _ hdp) rfl⟩
    intro H5 zs s5 e5 h5
    rw [fm_some] at h5
    have e4 := s5 _ _ e4
    have h4 := dpa_same s5 _ h4
    have dT := dp_same s5 _ dT
    clear s5 hD2
    refine gnm13 rfl ?_
    -- actual
    refine ⟨_, rfl, _, rfl, _, D, ys, es, 1, need, zt, rfl, dT, sql e4, h4, by omega, fun nm H6 s7 hnm => ?_⟩
    have e4 := s7 _ _ e4
    have h4 := dpa_same s7 _ h4
    have e5 := s7 _ _ e5
    have h5 := dpa_same s7 _ h5
    have dT := dp_same s7 _ dT
    clear s7
    refine gnm13 rfl ?_
    have ff := hfl es fun e he => he
    refine ⟨_, rfl, _, rfl, _, _, .lst (sql e4) h4, .lst (sql e5) h5, ff.sh (by decide), ff.sh (by decide), _, rfl, ifbf (by rw [eqv_self (ff.sh (by decide))]; rfl) ?_⟩
    refine ⟨_, rfl, .str nm, .ty "str", .type "str", .type "str", true, rfl, .ty _, .base (.str _), kit_ty (by decide +kernel), _, rfl, ifbf rfl ?_⟩
    -- fitting
    refine ⟨_, rfl, D2, rfl, ⟨_, sql e5⟩, fun D3 hD3 => ?_⟩
    refine lcd (K := K) es N5.d (fun e => if fit5 need zt e = true then some e.d else none) hD3 (sql e5) h5 (by omega) ?_ ?_
    · intro x e G he s5 _ hdp J j1 j2
      refine ⟨rfl, _, rfl, _, rfl, _, x, e, 1, need, zt, rfl, dp_same s5 _ dT, dp_same s5 _ hdp, fun b hb => ⟨_, rfl, ifb2 (fun h => ?_) (fun h => ?_)⟩⟩
      · exact ⟨_, rfl, j2 _ _ G (Same.refl _) (fun G'' s6 _ => dp_same s6 _ hdp) (if_pos (by rw [← hb]; exact h))⟩
      · exact j1 _ (Same.refl _) (if_neg (by rw [← hb, h]; simp))
    intro H7 ws s8 e8 h8
    rw [fm_if] at h8
    have h8 : DpAll K H7 ws ((fitL need zt es).map N5.d) := h8
    have dT := dp_same s8 _ dT
    have hsub : ∀ e ∈ fitL need zt es, e ∈ es := fun e he => (List.mem_filter.mp he).1
    have hfl2 : (fitL need zt es).length ≤ es.length := List.length_filter_le _ _
    have hndF : ((fitL need zt es).map (·.name)).Nodup := ((List.filter_sublist (l := es)).map (·.name)).nodup hnd
    clear s8 hD3
    refine gnm13 rfl ?_
    have fF := hfl _ hsub
    have fN : Flat 3 (.list []) := flat_list (n := 2) fun d hd => by cases hd
    refine ⟨_, rfl, (by show 0 ≤ sizeLine; decide), fun l0 hl0 => ?_⟩
    have s9 := same_upd (o := .lst []) hl0
    refine ⟨_, .list [], .lst (sql (s9 _ _ e8)) (dpa_same s9 _ h8), .lst (sql upd_same) .nil, fF.sh (by decide), fN.sh (by decide), _, rfl, ?_⟩
    rcases hnm with ⟨hn0, hn1⟩ | ⟨e, he, hn1, hle⟩
    · rw [hn0, hn1]
      exact ifbt rfl ⟨_, rfl, rfl, q _⟩
    have hne : PyData.eqv (.list ((fitL need zt es).map N5.d)) (.list []) = false := by
      cases hc : fitL need zt es with
      | nil => rw [hc] at he; cases he
      | cons e1 l => rfl
    refine ifbf hne ?_
    have e8 := s9 _ _ e8
    have h8 := dpa_same s9 _ h8
    have dT := dp_same s9 _ dT
    generalize upd H7 l0 (.lst []) = H8 at e8 h8 dT
    -- chosen
    refine ⟨_, rfl, D3, rfl, ⟨_, sql e8⟩, fun D4 hD4 => ?_⟩
    refine lcd (K := K) (fitL need zt es) N5.d (fun f => if decide (V.str f.name = V.str e.name) = true then some f.d else none) hD4 (sql e8) h8 (by omega) ?_ ?_
    · intro x f G hf s5 _ hdp J j1 j2
      obtain ⟨p, u0, u1, u2, u3, u4, rfl, hp, ⟨⟩, hn, ⟨⟩, ⟨⟩, ⟨⟩⟩ := dp_t5 hdp
      have hp := sqt_same s5 hp
      refine ⟨rfl, _, rfl, p, _, 0, _, rfl, rfl, hp, atI_nat (j := 0) rfl, _, rfl, rfl, _, rfl, ifd (fun h => ?_) (fun h => ?_)⟩
      · exact ⟨_, rfl, j2 _ _ G (Same.refl _) (fun G'' s6 _ => dp_same s6 _ hdp) (if_pos (by rw [decide_eq_true_iff, ← hn1]; exact h))⟩
      · exact j1 _ (Same.refl _) (if_neg (by rw [decide_eq_true_iff, ← hn1]; exact h))
    intro H9 us s10 e10 h10
    rw [oneS (·.name) N5.d hndF he] at h10
    obtain ⟨uc, us', rfl, hc, h11⟩ := dpa_cons h10
    obtain rfl := dpa_nil h11
    have e8 := s10 _ _ e8
    have h8 := dpa_same s10 _ h8
    have dT := dp_same s10 _ dT
    refine gnm13 rfl ?_
    refine ⟨_, rfl, D4, _, rfl, .inl (sql e10), rfl, _, rfl, ifnt rfl ?_⟩
    have hwl : ws.length = (fitL need zt es).length := by have := dpa_len h8; rwa [List.length_map] at this
    refine ⟨_, rfl, D3, rfl, ⟨_, sql e8⟩, for_list (K := K) (a := D3) (xs := ws) (fun i σ G => ∃ x11, σ = [some (.ref a), some (.int need), some (.int place), some (.int size), some (.int (tn : Int)), some (.ref pt), some (.ref D), some (.ref D2), some (.str nm), some (.ref D3), some (.ref D4), x11, none] ∧ Same H9 G)
      ⟨none, rfl, Same.refl _⟩ (fun i σ G _ ⟨_, _, h⟩ => sql (h _ _ e8)) ?_ ?_⟩
    · rintro i x σ G hx ⟨x11, rfl, s11⟩
      obtain ⟨d, hd, hdp⟩ := dpa_at h8 hx
      rw [List.getElem?_map] at hd
      cases hfi : (fitL need zt es)[i]? with
      | none => rw [hfi] at hd; cases hd
      | some f =>
        rw [hfi] at hd
        cases hd
        refine gnm13 rfl ?_
        refine ⟨_, rfl, _, rfl, _, _, f, 1, need, zt, rfl, dp_same s11 _ dT, dp_same s11 _ hdp, fun p1 G1 s12 d1 => ?_⟩
        refine ⟨_, rfl, _, rfl, D4, _, 0, _, rfl, rfl, sql (s12 _ _ (s11 _ _ e10)), atI_nat (j := 0) rfl, _, _, e, 1, need, zt, rfl, dp_same s12 _ (dp_same s11 _ dT), dp_same s12 _ (dp_same s11 _ hc), fun p2 G2 s13 d2 => ?_⟩
        refine ⟨rkD need f, rkD need e, dp_same s13 _ d1, d2, rfl, (by intro h; cases h), (by simp [rkD, PyData.depth, PyData.depthAll]), _, rfl, ifbf (hle f (List.mem_of_getElem? hfi)) ?_⟩
        exact ⟨_, rfl, (s11.trans s12).trans s13⟩
    · rintro σ G ⟨x11, rfl, _⟩
      exact q _
end
theorem all_mk {l : PySem.W.OpenLaw} {w : World} {K : PySem.W.Frag} {h : Heap} {mg : Str → Option Value} {fa : Addr} (X : K.In h) (G : h.Ns mainGlobals mg) (hfa : mg "law" = some (.ref fa))
    {f_free_size : Addr} {od_free_size an_free_size : Option Addr} {sl_free_size : Array (Option Value)} {oc_free_size kV_free_size dc_free_size pm_free_size cd_free_size ct_free_size : Value} {f_is_open : Addr} {od_is_open an_is_open : Option Addr} {sl_is_open : Array (Option Value)} {oc_is_open kV_is_open dc_is_open pm_is_open cd_is_open ct_is_open : Value} {f_fits : Addr} {od_fits an_fits : Option Addr} {sl_fits : Array (Option Value)} {oc_fits kV_fits dc_fits pm_fits cd_fits ct_fits : Value} {f_choose_node : Addr} {od_choose_node an_choose_node : Option Addr} {sl_choose_node : Array (Option Value)} {oc_choose_node kV_choose_node dc_choose_node pm_choose_node cd_choose_node ct_choose_node : Value} {f__law_number : Addr} {od__law_number an__law_number : Option Addr} {sl__law_number : Array (Option Value)} {oc__law_number kV__law_number dc__law_number pm__law_number cd__law_number ct__law_number : Value} {f__law_digits : Addr} {od__law_digits an__law_digits : Option Addr} {sl__law_digits : Array (Option Value)} {oc__law_digits kV__law_digits dc__law_digits pm__law_digits cd__law_digits ct__law_digits : Value} {f__law_zone : Addr} {od__law_zone an__law_zone : Option Addr} {sl__law_zone : Array (Option Value)} {oc__law_zone kV__law_zone dc__law_zone pm__law_zone cd__law_zone ct__law_zone : Value} {f__law_node : Addr} {od__law_node an__law_node : Option Addr} {sl__law_node : Array (Option Value)} {oc__law_node kV__law_node dc__law_node pm__law_node cd__law_node ct__law_node : Value} {f__law_fits : Addr} {od__law_fits an__law_fits : Option Addr} {sl__law_fits : Array (Option Value)} {oc__law_fits kV__law_fits dc__law_fits pm__law_fits cd__law_fits ct__law_fits : Value} {f__law_rank : Addr} {od__law_rank an__law_rank : Option Addr} {sl__law_rank : Array (Option Value)} {oc__law_rank kV__law_rank dc__law_rank pm__law_rank cd__law_rank ct__law_rank : Value} {f_law : Addr} {od_law an_law : Option Addr} {sl_law : Array (Option Value)} {oc_law kV_law dc_law pm_law cd_law ct_law : Value} {t_SIZE : Tok} {t_ZONE : Tok}
    (g_free_size : PySem.W.nsIn K mainGlobals "free_size" = some (some (.ref f_free_size)))
    (l_free_size : K.lookup f_free_size = some ⟨oc_free_size, od_free_size, .func (PySem.W.fnOf "free_size" "free_size" (defArgs s_free_size) (defBody s_free_size) (defScope s_free_size) .none kV_free_size dc_free_size pm_free_size an_free_size cd_free_size ct_free_size), sl_free_size⟩)
    (c_free_size : PySem.W.codeIn K cd_free_size "free_size" = true)
    (k_free_size : PySem.W.keepIn K (.ref f_free_size) = true)
    (g_is_open : PySem.W.nsIn K mainGlobals "is_open" = some (some (.ref f_is_open)))
    (l_is_open : K.lookup f_is_open = some ⟨oc_is_open, od_is_open, .func (PySem.W.fnOf "is_open" "is_open" (defArgs s_is_open) (defBody s_is_open) (defScope s_is_open) .none kV_is_open dc_is_open pm_is_open an_is_open cd_is_open ct_is_open), sl_is_open⟩)
    (c_is_open : PySem.W.codeIn K cd_is_open "is_open" = true)
    (k_is_open : PySem.W.keepIn K (.ref f_is_open) = true)
    (g_fits : PySem.W.nsIn K mainGlobals "fits" = some (some (.ref f_fits)))
    (l_fits : K.lookup f_fits = some ⟨oc_fits, od_fits, .func (PySem.W.fnOf "fits" "fits" (defArgs s_fits) (defBody s_fits) (defScope s_fits) .none kV_fits dc_fits pm_fits an_fits cd_fits ct_fits), sl_fits⟩)
    (c_fits : PySem.W.codeIn K cd_fits "fits" = true)
    (k_fits : PySem.W.keepIn K (.ref f_fits) = true)
    (g_choose_node : PySem.W.nsIn K mainGlobals "choose_node" = some (some (.ref f_choose_node)))
    (l_choose_node : K.lookup f_choose_node = some ⟨oc_choose_node, od_choose_node, .func (PySem.W.fnOf "choose_node" "choose_node" (defArgs s_choose_node) (defBody s_choose_node) (defScope s_choose_node) .none kV_choose_node dc_choose_node pm_choose_node an_choose_node cd_choose_node ct_choose_node), sl_choose_node⟩)
    (c_choose_node : PySem.W.codeIn K cd_choose_node "choose_node" = true)
    (k_choose_node : PySem.W.keepIn K (.ref f_choose_node) = true)
    (g__law_number : PySem.W.nsIn K mainGlobals "_law_number" = some (some (.ref f__law_number)))
    (l__law_number : K.lookup f__law_number = some ⟨oc__law_number, od__law_number, .func (PySem.W.fnOf "_law_number" "_law_number" (defArgs s__law_number) (defBody s__law_number) (defScope s__law_number) .none kV__law_number dc__law_number pm__law_number an__law_number cd__law_number ct__law_number), sl__law_number⟩)
    (c__law_number : PySem.W.codeIn K cd__law_number "_law_number" = true)
    (k__law_number : PySem.W.keepIn K (.ref f__law_number) = true)
    (g__law_digits : PySem.W.nsIn K mainGlobals "_law_digits" = some (some (.ref f__law_digits)))
    (l__law_digits : K.lookup f__law_digits = some ⟨oc__law_digits, od__law_digits, .func (PySem.W.fnOf "_law_digits" "_law_digits" (defArgs s__law_digits) (defBody s__law_digits) (defScope s__law_digits) .none kV__law_digits dc__law_digits pm__law_digits an__law_digits cd__law_digits ct__law_digits), sl__law_digits⟩)
    (c__law_digits : PySem.W.codeIn K cd__law_digits "_law_digits" = true)
    (k__law_digits : PySem.W.keepIn K (.ref f__law_digits) = true)
    (g__law_zone : PySem.W.nsIn K mainGlobals "_law_zone" = some (some (.ref f__law_zone)))
    (l__law_zone : K.lookup f__law_zone = some ⟨oc__law_zone, od__law_zone, .func (PySem.W.fnOf "_law_zone" "_law_zone" (defArgs s__law_zone) (defBody s__law_zone) (defScope s__law_zone) .none kV__law_zone dc__law_zone pm__law_zone an__law_zone cd__law_zone ct__law_zone), sl__law_zone⟩)
    (c__law_zone : PySem.W.codeIn K cd__law_zone "_law_zone" = true)
    (k__law_zone : PySem.W.keepIn K (.ref f__law_zone) = true)
    (g__law_node : PySem.W.nsIn K mainGlobals "_law_node" = some (some (.ref f__law_node)))
    (l__law_node : K.lookup f__law_node = some ⟨oc__law_node, od__law_node, .func (PySem.W.fnOf "_law_node" "_law_node" (defArgs s__law_node) (defBody s__law_node) (defScope s__law_node) .none kV__law_node dc__law_node pm__law_node an__law_node cd__law_node ct__law_node), sl__law_node⟩)
    (c__law_node : PySem.W.codeIn K cd__law_node "_law_node" = true)
    (k__law_node : PySem.W.keepIn K (.ref f__law_node) = true)
    (g__law_fits : PySem.W.nsIn K mainGlobals "_law_fits" = some (some (.ref f__law_fits)))
    (l__law_fits : K.lookup f__law_fits = some ⟨oc__law_fits, od__law_fits, .func (PySem.W.fnOf "_law_fits" "_law_fits" (defArgs s__law_fits) (defBody s__law_fits) (defScope s__law_fits) .none kV__law_fits dc__law_fits pm__law_fits an__law_fits cd__law_fits ct__law_fits), sl__law_fits⟩)
    (c__law_fits : PySem.W.codeIn K cd__law_fits "_law_fits" = true)
    (k__law_fits : PySem.W.keepIn K (.ref f__law_fits) = true)
    (g__law_rank : PySem.W.nsIn K mainGlobals "_law_rank" = some (some (.ref f__law_rank)))
    (l__law_rank : K.lookup f__law_rank = some ⟨oc__law_rank, od__law_rank, .func (PySem.W.fnOf "_law_rank" "_law_rank" (defArgs s__law_rank) (defBody s__law_rank) (defScope s__law_rank) .none kV__law_rank dc__law_rank pm__law_rank an__law_rank cd__law_rank ct__law_rank), sl__law_rank⟩)
    (c__law_rank : PySem.W.codeIn K cd__law_rank "_law_rank" = true)
    (k__law_rank : PySem.W.keepIn K (.ref f__law_rank) = true)
    (g_law : PySem.W.nsIn K mainGlobals "law" = some (some (.ref f_law)))
    (l_law : K.lookup f_law = some ⟨oc_law, od_law, .func (PySem.W.fnOf "law" "law" (defArgs s_law) (defBody s_law) (defScope s_law) .none kV_law dc_law pm_law an_law cd_law ct_law), sl_law⟩)
    (c_law : PySem.W.codeIn K cd_law "law" = true)
    (k_law : PySem.W.keepIn K (.ref f_law) = true)
    (c_SIZE : PySem.W.nsIn K mainGlobals "SIZE" = some (some (.int 2 t_SIZE)))
    (c_ZONE : PySem.W.nsIn K mainGlobals "ZONE" = some (some (.int 7 t_ZONE)))
    (n_len : PySem.W.nsIn K mainGlobals "len" = some none)
    (n_abs : PySem.W.nsIn K mainGlobals "abs" = some none)
    (n_int : PySem.W.nsIn K mainGlobals "int" = some none)
    (n_min : PySem.W.nsIn K mainGlobals "min" = some none)
    (n_max : PySem.W.nsIn K mainGlobals "max" = some none)
    (n_range : PySem.W.nsIn K mainGlobals "range" = some none)
    (n_isinstance : PySem.W.nsIn K mainGlobals "isinstance" = some none)
    (n_str : PySem.W.nsIn K mainGlobals "str" = some none) :
    ∃ fd : FuncData, (∀ (s : Shared) (v : Value), BindsTo s fd ⟨[v], []⟩ [("script", v)]) ∧ ∀ base : Heap, K.In base → base.Ns mainGlobals mg → FnOk l.prog w K mg base CX0 4 fa fd ["script"] (sp_law K) := by
  have e : fa = f_law := by
    have z := hfa.symm.trans (PySem.W.mg_of X G g_law)
    injection z with z
    injection z
  rw [e]
  let T : TX K mg := ⟨f_free_size, (PySem.W.fnOf "free_size" "free_size" (defArgs s_free_size) (defBody s_free_size) (defScope s_free_size) .none kV_free_size dc_free_size pm_free_size an_free_size cd_free_size ct_free_size), (fun_mk (st := s_free_size) l_free_size c_free_size k_free_size), ((fun_mk (st := s_free_size) l_free_size c_free_size k_free_size).binds (ps := ["node_value", "assumed"]) fun _ _ _ _ _ _ us hl => match us, hl with | [_, _], _ => rfl), (PySem.W.mg_of X G g_free_size), f_is_open, (PySem.W.fnOf "is_open" "is_open" (defArgs s_is_open) (defBody s_is_open) (defScope s_is_open) .none kV_is_open dc_is_open pm_is_open an_is_open cd_is_open ct_is_open), (fun_mk (st := s_is_open) l_is_open c_is_open k_is_open), ((fun_mk (st := s_is_open) l_is_open c_is_open k_is_open).binds (ps := ["node_value"]) fun _ _ _ _ _ _ us hl => match us, hl with | [_], _ => rfl), (PySem.W.mg_of X G g_is_open), f_fits, (PySem.W.fnOf "fits" "fits" (defArgs s_fits) (defBody s_fits) (defScope s_fits) .none kV_fits dc_fits pm_fits an_fits cd_fits ct_fits), (fun_mk (st := s_fits) l_fits c_fits k_fits), ((fun_mk (st := s_fits) l_fits c_fits k_fits).binds (ps := ["task_value", "node_value", "drained", "assumed"]) fun _ _ _ _ _ _ us hl => match us, hl with | [_, _, _, _], _ => rfl), (PySem.W.mg_of X G g_fits), f_choose_node, (PySem.W.fnOf "choose_node" "choose_node" (defArgs s_choose_node) (defBody s_choose_node) (defScope s_choose_node) .none kV_choose_node dc_choose_node pm_choose_node an_choose_node cd_choose_node ct_choose_node), (fun_mk (st := s_choose_node) l_choose_node c_choose_node k_choose_node), ((fun_mk (st := s_choose_node) l_choose_node c_choose_node k_choose_node).binds (ps := ["task_value", "nodes"]) fun _ _ _ _ _ _ us hl => match us, hl with | [_, _], _ => rfl), (PySem.W.mg_of X G g_choose_node), f__law_number, (PySem.W.fnOf "_law_number" "_law_number" (defArgs s__law_number) (defBody s__law_number) (defScope s__law_number) .none kV__law_number dc__law_number pm__law_number an__law_number cd__law_number ct__law_number), (fun_mk (st := s__law_number) l__law_number c__law_number k__law_number), ((fun_mk (st := s__law_number) l__law_number c__law_number k__law_number).binds (ps := ["script", "k"]) fun _ _ _ _ _ _ us hl => match us, hl with | [_, _], _ => rfl), (PySem.W.mg_of X G g__law_number), f__law_digits, (PySem.W.fnOf "_law_digits" "_law_digits" (defArgs s__law_digits) (defBody s__law_digits) (defScope s__law_digits) .none kV__law_digits dc__law_digits pm__law_digits an__law_digits cd__law_digits ct__law_digits), (fun_mk (st := s__law_digits) l__law_digits c__law_digits k__law_digits), ((fun_mk (st := s__law_digits) l__law_digits c__law_digits k__law_digits).binds (ps := ["script", "k", "sizes"]) fun _ _ _ _ _ _ us hl => match us, hl with | [_, _, _], _ => rfl), (PySem.W.mg_of X G g__law_digits), f__law_zone, (PySem.W.fnOf "_law_zone" "_law_zone" (defArgs s__law_zone) (defBody s__law_zone) (defScope s__law_zone) .none kV__law_zone dc__law_zone pm__law_zone an__law_zone cd__law_zone ct__law_zone), (fun_mk (st := s__law_zone) l__law_zone c__law_zone k__law_zone), ((fun_mk (st := s__law_zone) l__law_zone c__law_zone k__law_zone).binds (ps := ["digit"]) fun _ _ _ _ _ _ us hl => match us, hl with | [_], _ => rfl), (PySem.W.mg_of X G g__law_zone), f__law_node, (PySem.W.fnOf "_law_node" "_law_node" (defArgs s__law_node) (defBody s__law_node) (defScope s__law_node) .none kV__law_node dc__law_node pm__law_node an__law_node cd__law_node ct__law_node), (fun_mk (st := s__law_node) l__law_node c__law_node k__law_node), ((fun_mk (st := s__law_node) l__law_node c__law_node k__law_node).binds (ps := ["script", "k", "at"]) fun _ _ _ _ _ _ us hl => match us, hl with | [_, _, _], _ => rfl), (PySem.W.mg_of X G g__law_node), f__law_fits, (PySem.W.fnOf "_law_fits" "_law_fits" (defArgs s__law_fits) (defBody s__law_fits) (defScope s__law_fits) .none kV__law_fits dc__law_fits pm__law_fits an__law_fits cd__law_fits ct__law_fits), (fun_mk (st := s__law_fits) l__law_fits c__law_fits k__law_fits), ((fun_mk (st := s__law_fits) l__law_fits c__law_fits k__law_fits).binds (ps := ["task", "node"]) fun _ _ _ _ _ _ us hl => match us, hl with | [_, _], _ => rfl), (PySem.W.mg_of X G g__law_fits), f__law_rank, (PySem.W.fnOf "_law_rank" "_law_rank" (defArgs s__law_rank) (defBody s__law_rank) (defScope s__law_rank) .none kV__law_rank dc__law_rank pm__law_rank an__law_rank cd__law_rank ct__law_rank), (fun_mk (st := s__law_rank) l__law_rank c__law_rank k__law_rank), ((fun_mk (st := s__law_rank) l__law_rank c__law_rank k__law_rank).binds (ps := ["task", "node"]) fun _ _ _ _ _ _ us hl => match us, hl with | [_, _], _ => rfl), (PySem.W.mg_of X G g__law_rank), f_law, (PySem.W.fnOf "law" "law" (defArgs s_law) (defBody s_law) (defScope s_law) .none kV_law dc_law pm_law an_law cd_law ct_law), (fun_mk (st := s_law) l_law c_law k_law), ((fun_mk (st := s_law) l_law c_law k_law).binds (ps := ["script"]) fun _ _ _ _ _ _ us hl => match us, hl with | [_], _ => rfl), (PySem.W.mg_of X G g_law), t_SIZE, (PySem.W.mg_of X G c_SIZE), t_ZONE, (PySem.W.mg_of X G c_ZONE), (PySem.W.mg_none_of X G n_len), (PySem.W.mg_none_of X G n_abs), (PySem.W.mg_none_of X G n_int), (PySem.W.mg_none_of X G n_min), (PySem.W.mg_none_of X G n_max), (PySem.W.mg_none_of X G n_range), (PySem.W.mg_none_of X G n_isinstance), (PySem.W.mg_none_of X G n_str)⟩
  exact ⟨T.d_law, fun s v => .of_eq rfl, fun base _ _ => ok_law T⟩
end My
open PySem PySem.W PyProof.Rows
set_option maxHeartbeats 0 in
theorem PySem.Challenge.cw_majordomo_k70_the_chosen_node_holds : PySem.Challenge.rw_majordomo_k70_the_chosen_node.Holds := by
  w_on; o_law; k_head; (case hw => w_witness2)
  k_fill
  refine L2.walk_of (l := PySem.Challenge.rw_majordomo_k70_the_chosen_node) (n := 63) (k := 4) (x := "script") (CX := (fun _ => L2.CX0)) (sp := fun w => My.sp_law _) rfl (by decide) rfl ⟨rfl, by decide, by decide⟩ (fun w h Y => PySem.W.kIn_of Y) ?F (fun _ _ a ns hl _ hS => ⟨a, ns, rfl, hS, hl, fun _ => rfl⟩) (fun _ _ _ _ _ h => h)
  case F =>
    intro w mg fa h KX G hmg
    refine' My.all_mk KX G hmg ?g_free_size ?l_free_size ?c_free_size ?k_free_size ?g_is_open ?l_is_open ?c_is_open ?k_is_open ?g_fits ?l_fits ?c_fits ?k_fits ?g_choose_node ?l_choose_node ?c_choose_node ?k_choose_node ?g__law_number ?l__law_number ?c__law_number ?k__law_number ?g__law_digits ?l__law_digits ?c__law_digits ?k__law_digits ?g__law_zone ?l__law_zone ?c__law_zone ?k__law_zone ?g__law_node ?l__law_node ?c__law_node ?k__law_node ?g__law_fits ?l__law_fits ?c__law_fits ?k__law_fits ?g__law_rank ?l__law_rank ?c__law_rank ?k__law_rank ?g_law ?l_law ?c_law ?k_law ?c_SIZE ?c_ZONE ?n_len ?n_abs ?n_int ?n_min ?n_max ?n_range ?n_isinstance ?n_str
    (case g_free_size => k_is); (case l_free_size => k_is); (case c_free_size => k_is); (case k_free_size => k_is); (case g_is_open => k_is); (case l_is_open => k_is); (case c_is_open => k_is); (case k_is_open => k_is); (case g_fits => k_is); (case l_fits => k_is); (case c_fits => k_is); (case k_fits => k_is); (case g_choose_node => k_is); (case l_choose_node => k_is); (case c_choose_node => k_is); (case k_choose_node => k_is); (case g__law_number => k_is); (case l__law_number => k_is); (case c__law_number => k_is); (case k__law_number => k_is); (case g__law_digits => k_is); (case l__law_digits => k_is); (case c__law_digits => k_is); (case k__law_digits => k_is); (case g__law_zone => k_is); (case l__law_zone => k_is); (case c__law_zone => k_is); (case k__law_zone => k_is); (case g__law_node => k_is); (case l__law_node => k_is); (case c__law_node => k_is); (case k__law_node => k_is); (case g__law_fits => k_is); (case l__law_fits => k_is); (case c__law_fits => k_is); (case k__law_fits => k_is); (case g__law_rank => k_is); (case l__law_rank => k_is); (case c__law_rank => k_is); (case k__law_rank => k_is); (case g_law => k_is); (case l_law => k_is); (case c_law => k_is); (case k_law => k_is); (case c_SIZE => k_is); (case c_ZONE => k_is); (case n_len => k_is); (case n_abs => k_is); (case n_int => k_is); (case n_min => k_is); (case n_max => k_is); (case n_range => k_is); (case n_isinstance => k_is); (case n_str => k_is)

