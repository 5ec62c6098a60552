import PyProof.Rows.All
import Wide.All
import OpenK.AllK
import Wide.FinOn
import HandS.ForMost
import HandS.IsInst
import HandS.EndBits
import HandS.Wide
import HandS.WideBits
import HandS.TupAny
import HandS.Codes
import HandS.Defaults
import HandS.ForExc
import HandS.TryMany
import HandS.ExcIs
import HandS.TryElse
import HandS.DictComp
import HandS.Walk
import HandS.NoneIn
import HandS.NoneIn
import HandS.FStr
import HandS.Text
import HandS.TupLe
import HandS.TupMul
import HandS.Deep
import HandS.Steps
import HandS.CallLocal
import HandS.Lambda
import HandS.DictTup
import PyProof.DictMoreH
import KE.SortKeyHeap
import KE.SortUse
import HandS.Lambda
import HandS.EndTab
import PySem.Challenge.RW_majordomo_k78_a_life_in_the_store
set_option Elab.async false
set_option linter.all false
set_option maxRecDepth 100000
set_option maxHeartbeats 4000000

namespace My
open PySem PySem.Spec PyProof.Rows L2
/-! own words: tests, heaps, items -/
theorem ifd {p A B : Prop} [Decidable p] (h1 : p → A) (h2 : ¬ p → B) : if decide p = true then A else B := by
  by_cases h : p
  · rw [decide_eq_true h]; exact (if_pos rfl).mpr (h1 h)
  · rw [decide_eq_false h]; exact (if_neg Bool.false_ne_true).mpr (h2 h)
theorem ifn {p A B : Prop} [Decidable p] (h1 : ¬ p → A) (h2 : p → B) : if (!decide p) = true then A else B := by
  by_cases h : p
  · rw [decide_eq_true h]; exact (if_neg Bool.false_ne_true).mpr (h2 h)
  · rw [decide_eq_false h]; exact (if_pos rfl).mpr (h1 h)
theorem ift {p A B : Prop} [Decidable p] (h : p) (h1 : A) : if decide p = true then A else B := by
  rw [decide_eq_true h]; exact (if_pos rfl).mpr h1
theorem iff0 {p A B : Prop} [Decidable p] (h : ¬ p) (h1 : B) : if decide p = true then A else B := by
  rw [decide_eq_false h]; exact (if_neg Bool.false_ne_true).mpr h1
theorem ifnt {p A B : Prop} [Decidable p] (h : p) (h1 : B) : if (!decide p) = true then A else B := by
  rw [decide_eq_true h]; exact (if_neg Bool.false_ne_true).mpr h1
theorem ifbt {b : Bool} {A B : Prop} (h : b = true) (h1 : A) : if b = true then A else B := (if_pos h).mpr h1
theorem ifbf {b : Bool} {A B : Prop} (h : b = false) (h1 : B) : if b = true then A else B := by rw [h]; exact h1
theorem ifb2 {b : Bool} {A B : Prop} (h1 : b = true → A) (h2 : b = false → B) : if b = true then A else B := by
  cases b with
  | true => exact h1 rfl
  | false => exact h2 rfl
theorem same_upd {H : Hp} {p : Addr} {o : HO} (h : H p = none) : Same H (upd H p o) := fun b x e => by
  rw [upd_ne (ne_of_none e h)]
  exact e
theorem same_put {H H' : Hp} {p : Addr} {o : HO} (e : Same H H') (h : H p = none) : Same H (upd H' p o) := fun b x q => by
  rw [upd_ne (ne_of_none q h)]
  exact e b x q
theorem sqt_same {K : PySem.W.Frag} {H H' : Hp} {a : Addr} {xs : List V} (e : Same H H') (h : SqT K H a xs) : SqT K H' a xs := by
  rcases h with (h | ⟨o, h⟩) | h
  · exact .inl (.inl (e _ _ h))
  · exact .inl (.inr ⟨o, e _ _ h⟩)
  · exact .inr h
theorem sql {K : PySem.W.Frag} {H : Hp} {a : Addr} {xs : List V} (h : H a = some (.lst xs)) : SqL K H a xs := .inl (.inl h)
theorem sqt {K : PySem.W.Frag} {H : Hp} {a : Addr} {xs : List V} (h : H a = some (.tup xs)) : SqT K H a xs := .inl (.inl h)
theorem sz {n : Nat} (h : n ≤ 100000) : n ≤ sizeLine := Nat.le_trans h (by decide)
theorem szl {n : Nat} (h : n ≤ 100000) : n < sizeLine := Nat.lt_of_le_of_lt h (by decide)
theorem map_at {α : Type} {f : α → V} {xs : List α} {i : Nat} {y : V} (h : (xs.map f)[i]? = some y) : ∃ x, xs[i]? = some x ∧ y = f x := by
  rw [List.getElem?_map] at h
  cases e : xs[i]? with
  | none => rw [e] at h; cases h
  | some x => rw [e] at h; exact ⟨x, rfl, (Option.some.inj h).symm⟩
theorem at_map {α : Type} {f : α → V} {xs : List α} {i : Nat} {x : α} (h : xs[i]? = some x) : atI (xs.map f) (i : Int) = some (f x) := atI_nat (by rw [List.getElem?_map, h]; rfl)
theorem take_more {α : Type} {l : List α} {i : Nat} {x : α} (h : l[i]? = some x) : l.take (i + 1) = l.take i ++ [x] := by
  rw [List.take_add_one, h]; rfl
/-! deep data stands as long as what was tracked stands -/
mutual
theorem dp_same {K : PySem.W.Frag} {H H' : Hp} (e : Same H H') : ∀ (d : PyData) {v : V}, Dp K H v d → Dp K H' v d
  | _, _, .non => .non
  | _, _, .bl b => .bl b
  | _, _, .int i => .int i
  | _, _, .str x => .str x
  | .list ds, _, .lst h a => .lst (e.seq h) (dpa_same e ds a)
  | .tuple ds, _, .tup h a => .tup (sqt_same e h) (dpa_same e ds a)
theorem dpa_same {K : PySem.W.Frag} {H H' : Hp} (e : Same H H') : ∀ (ds : List PyData) {vs : List V}, DpAll K H vs ds → DpAll K H' vs ds
  | [], _, .nil => .nil
  | d :: ds, _, .cons h a => .cons (dp_same e d h) (dpa_same e ds a)
end
theorem dpa_len {K : PySem.W.Frag} {H : Hp} : ∀ {vs : List V} {ds : List PyData}, DpAll K H vs ds → vs.length = ds.length
  | _, _, .nil => rfl
  | _, _, .cons _ a => by rw [List.length_cons, List.length_cons, dpa_len a]
theorem dpa_at {K : PySem.W.Frag} {H : Hp} : ∀ {vs : List V} {ds : List PyData} {i : Nat} {v : V}, DpAll K H vs ds → vs[i]? = some v → ∃ d, ds[i]? = some d ∧ Dp K H v d
  | _, _, _, _, .nil, h => by simp at h
  | _, _, 0, _, .cons h _, e => ⟨_, rfl, by have := Option.some.inj e; subst this; exact h⟩
  | _, _, i + 1, _, .cons _ a, e => dpa_at (i := i) a (by simpa using e)
theorem dpa_app {K : PySem.W.Frag} {H : Hp} : ∀ {vs ws : List V} {ds es : List PyData}, DpAll K H vs ds → DpAll K H ws es → DpAll K H (vs ++ ws) (ds ++ es)
  | _, _, _, _, .nil, b => b
  | _, _, _, _, .cons h a, b => .cons h (dpa_app a b)
theorem eqv_self {d : PyData} (h : SeqAt.shaped d = true) : PyData.eqv d d = true := SeqAt.eqv_refl d (SeqAt.canLay_of_shaped h)
/-! data that may be compared -/
theorem layAll : ∀ {ds : List PyData}, (∀ d ∈ ds, d.canLay0 = true) → PyData.canLayAll0 ds = true
  | [], _ => rfl
  | d :: ds, h => by
    rw [PyData.canLayAll0, h d List.mem_cons_self, layAll fun e he => h e (List.mem_cons_of_mem _ he)]; rfl
theorem depAll {n : Nat} : ∀ {ds : List PyData}, (∀ d ∈ ds, d.depth ≤ n) → PyData.depthAll ds ≤ n
  | [], _ => Nat.zero_le _
  | d :: ds, h => by
    have h1 := h d List.mem_cons_self
    have h2 := depAll (ds := ds) fun e he => h e (List.mem_cons_of_mem _ he)
    simp only [PyData.depthAll]
    omega
/-- plain data of at most this depth -/
def Flat (n : Nat) (d : PyData) : Prop := d.canLay0 = true ∧ d.depth ≤ n
theorem flat_list {n : Nat} {ds : List PyData} (h : ∀ d ∈ ds, Flat n d) : Flat (n + 1) (.list ds) :=
  ⟨by rw [PyData.canLay0]; exact layAll fun d hd => (h d hd).1, by have := depAll (n := n) fun d hd => (h d hd).2; simp only [PyData.depth]; omega⟩
theorem flat_tup {n : Nat} {ds : List PyData} (h : ∀ d ∈ ds, Flat n d) : Flat (n + 1) (.tuple ds) :=
  ⟨by rw [PyData.canLay0]; exact layAll fun d hd => (h d hd).1, by have := depAll (n := n) fun d hd => (h d hd).2; simp only [PyData.depth]; omega⟩
theorem flat_int (n : Nat) (i : Int) : Flat n (.int i) := ⟨rfl, by simp [PyData.depth]⟩
theorem flat_str (n : Nat) (x : Str) (h : (PyData.str x).canLay0 = true := by decide +kernel) : Flat n (.str x) := ⟨h, by simp [PyData.depth]⟩
theorem flat_bl (n : Nat) (b : Bool) : Flat n (.bool b) := ⟨rfl, by simp [PyData.depth]⟩
theorem flat_non (n : Nat) : Flat n .none := ⟨rfl, by simp [PyData.depth]⟩
theorem Flat.mono {n m : Nat} {d : PyData} (h : Flat n d) (hm : n ≤ m) : Flat m d := ⟨h.1, Nat.le_trans h.2 hm⟩
theorem Flat.sh {n : Nat} {d : PyData} (h : Flat n d) (hn : n ≤ 64) : SeqAt.shaped d = true := by
  show (d.canLay0 && decide (d.depth ≤ 64)) = true
  rw [Bool.and_eq_true]
  exact ⟨h.1, decide_eq_true (Nat.le_trans h.2 hn)⟩
theorem tyx_t {K : PySem.W.Frag} {H : Hp} {a : Addr} {xs : List V} (h : SqT K H a xs) : TyX K H (.ref a) (.type "tuple") := by
  rcases h with (h | ⟨o, h⟩) | ⟨o, its, n, h, hc, _⟩
  · exact .base (.tup h)
  · exact .fTuple h
  · exact .kTuple h hc
theorem tyx_l {K : PySem.W.Frag} {H : Hp} {a : Addr} {xs : List V} (h : SqL K H a xs) : TyX K H (.ref a) (.type "list") := by
  rcases h with (h | ⟨o, h⟩) | ⟨o, its, n, h, hc, _⟩
  · exact .base (.lst h)
  · exact .base (.frz h)
  · exact .kList h hc
theorem same_both {G H : Hp} {t : Addr} {x : HO} (e : Same G H) : Same (upd G t x) (upd H t x) := fun b o h => by
  by_cases hb : b = t
  · subst hb; rw [upd_same] at h ⊢; exact h
  · rw [upd_ne hb] at h ⊢; exact e b o h
theorem set_self {α : Type} : ∀ {l : List α} {i : Nat} {x : α}, l[i]? = some x → l.set i x = l
  | [], i, x, h => by simp at h
  | a :: l, 0, x, h => by
    have e : a = x := Option.some.inj h
    subst e
    rfl
  | a :: l, i + 1, x, h => by
    show a :: l.set i x = a :: l
    rw [set_self (by simpa using h)]
theorem ixn {n j : Nat} {i : Int} (hi : i = (j : Int)) (hj : j < n) : ixN n i = some j := by
  unfold ixN
  rw [if_pos (by omega), if_pos (by omega)]
  congr 1
  omega
/-! shifts and masks in place -/
section
variable {X : Cx}
theorem ip_shr : PIp X .RShift (fun x y H Q => ∃ (i : Int) (k : Nat), x = .int i ∧ y = .int (k : Int) ∧ Q (.int (i / 2 ^ k)) H) := by
  intro pins s σ H x y v u Q I r1 r2 h
  obtain ⟨i, k, e1, e2, q⟩ := h
  subst e1; subst e2
  obtain ⟨t, rfl⟩ := r1
  obtain ⟨t', rfl⟩ := r2
  refine irshift_int (Int.natCast_nonneg k) ⟨.int _, H, I.tok _, ⟨_, rfl⟩, ?_⟩
  rw [Int.toNat_natCast, Int.fdiv_eq_ediv_of_nonneg _ (Int.le_of_lt (Int.pow_pos (by decide)))]
  exact q
theorem ip_or : PIp X .BitOr (fun x y H Q => ∃ (r a : Int) (k : Nat), x = .int r ∧ y = .int (a * 2 ^ k) ∧ (0 ≤ a ∧ 0 ≤ r ∧ r < 2 ^ k) ∧ Q (.int (r + a * 2 ^ k)) H) := by
  intro pins s σ H x y v u Q I r1 r2 h
  obtain ⟨r, a, k, e1, e2, ⟨h0, h1, h2⟩, q⟩ := h
  subst e1; subst e2
  obtain ⟨t, rfl⟩ := r1
  obtain ⟨t', rfl⟩ := r2
  refine ior_int ⟨.int _, H, I.tok _, ⟨_, rfl⟩, ?_⟩
  have e : Builtin.bitOr r (a * 2 ^ k) = r + a * 2 ^ k := by
    have hp : (0 : Int) ≤ a * 2 ^ k := Int.mul_nonneg h0 (Int.le_of_lt (Int.pow_pos (by decide)))
    rw [bitOr_nn h1 hp, Nat.or_comm, ← bitOr_nn hp h1, or_low h0 h1 h2, Int.add_comm]
  rw [e]
  exact q
end
theorem bits_small : ∀ n : Nat, n < 128 → Builtin.Int.intBits (n : Int) ≤ 8 := by decide +kernel
/-- isinstance(e, c) of the error that a suite holds, its class known by the reading -/
theorem call_isE1 {X : Cx} {a D : Addr} {oe : Obj} {cls : Value} {d : Option Addr} {pn : List (Addr × Obj)} (C : ExcC X.K D) (hz : Zc cls d oe) (hf : ∃ vs, oe.data = .fields vs) :
    CallR (X.suite a ((a, oe) :: pn)) (.builtin "isinstance") (fun xs H Q => cls = .ref D ∧ d = none ∧ rIsE X.K D a xs H Q) := fun pins s σ H xs us Q I r h => by
  obtain ⟨h1, h2, h⟩ := h
  subst h1
  subst h2
  exact call_isE C hz hf pins s σ H xs us Q I r h
/-! slices -/
theorem sIx_le {n d : Nat} {i : Nat} : HT.sIx n d (some (i : Int)) = min i n := HT.sIx_nat n d i
theorem cut0n (xs : List V) (j : Nat) : cutV xs none (some (j : Int)) = xs.take j := by
  unfold cutV
  rw [sIx_le, HT.sIx_none, List.drop_zero, Nat.sub_zero]
  exact (List.take_eq_take_min).symm
theorem cutnn (xs : List V) (i j : Nat) : cutV xs (some (i : Int)) (some (j : Int)) = (xs.drop i).take (j - i) := by
  unfold cutV
  rw [sIx_le, sIx_le]
  by_cases hi : i ≤ xs.length
  · rw [Nat.min_eq_left hi]
    by_cases hj : j ≤ xs.length
    · rw [Nat.min_eq_left hj]
    · rw [Nat.min_eq_right (by omega), List.take_of_length_le (by rw [List.length_drop]; omega), List.take_of_length_le (by rw [List.length_drop]; omega)]
  · have e : min i xs.length = xs.length := by omega
    rw [e, List.drop_of_length_le (Nat.le_refl _), List.drop_of_length_le (show xs.length ≤ i by omega), List.take_nil, List.take_nil]
theorem cut_ints (ns : List Int) {i j : Nat} {a b : Int} (ha : a = i) (hb : b = j) : cutV (ns.map V.int) (some a) (some b) = ((ns.drop i).take (j - i)).map V.int := by
  rw [ha, hb, cutnn, ← List.map_drop, ← List.map_take]
theorem rep_ints (ns : List Int) (k : Nat) : (List.replicate k (ns.map V.int)).flatten = (List.replicate k ns).flatten.map V.int := by
  rw [List.map_flatten, List.map_replicate]
/-- [e for x in a slice], e changes nothing -/
theorem lc_cut {K : PySem.W.Frag} {wi : TI} {te : TE} {s : Nat} {σ : L2.St} {H : Hp} {Q : VK} (xs : List V) (f : V → V)
    (hwi : ∀ R : It → Hp → Prop, (∀ p, H p = none → R (Itl K p) (upd H p (.lst xs))) → wi σ H R) (hlen : xs.length ≤ 90000)
    (hw : ∀ x, wipe ((wipe σ [s]).set s (some x)) [s] = wipe σ [s])
    (he : ∀ (i : Nat) (x : V) (G : Hp) (Q' : VK), xs[i]? = some x → Same H G → Q' (f x) G → te ((wipe σ [s]).set s (some x)) G Q')
    (k : ∀ D H', H D = none → Same H H' → H' D = some (.lst (xs.map f)) → Q (.ref D) H') : tLc wi (gName s) tYes te [s] σ H Q := by
  refine hwi _ fun p hp D hD => ?_
  have nD : D ≠ p := fun z => by rw [z, upd_same] at hD; cases hD
  have hD0 : H D = none := by rw [upd_ne nD] at hD; exact hD
  refine lc_list (K := K) (a := p) (xs := xs) (fun i H' => Same H H' ∧ H' p = some (.lst xs) ∧ H' D = some (.lst ((xs.take i).map f)))
    ⟨(same_upd hp).trans (same_upd hD), by rw [upd_ne nD.symm, upd_same], by rw [upd_same]; rfl⟩ (fun i H' _ h => sql h.2.1) (fun i x G hx hG => ?_) (fun G hG => ?_)
  · refine ⟨hw x, ?_⟩
    refine he i x G _ hx hG.1 ⟨_, hG.2.2, szl (by rw [List.length_map, List.length_take]; omega), same_put hG.1 hD0, by rw [upd_ne nD.symm]; exact hG.2.1, ?_⟩
    rw [upd_same, take_more hx, List.map_append]
    rfl
  · refine k D G hD0 hG.1 ?_
    rw [List.take_length] at hG
    exact hG.2.2
/-- lists of ints as data -/
theorem dpa_ints {K : PySem.W.Frag} {H : Hp} : ∀ ns : List Int, DpAll K H (ns.map V.int) (ns.map PyData.int)
  | [] => .nil
  | n :: ns => .cons (.int n) (dpa_ints ns)
theorem dp_ints {K : PySem.W.Frag} {H : Hp} {a : Addr} {ns : List Int} (h : SqL K H a (ns.map V.int)) : Dp K H (.ref a) (.list (ns.map PyData.int)) := .lst h (dpa_ints ns)
theorem flat_ints (ns : List Int) : Flat 1 (.list (ns.map PyData.int)) := flat_list (n := 0) fun d hd => by
  obtain ⟨i, _, rfl⟩ := List.mem_map.mp hd
  exact flat_int _ _
theorem flat_tints (ns : List Int) : Flat 1 (.tuple (ns.map PyData.int)) := flat_tup (n := 0) fun d hd => by
  obtain ⟨i, _, rfl⟩ := List.mem_map.mp hd
  exact flat_int _ _
theorem eqvAll_ints : ∀ xs ys : List Int, PyData.eqvAll (xs.map .int) (ys.map .int) = decide (xs = ys)
  | [], [] => rfl
  | [], _ :: _ => rfl
  | _ :: _, [] => rfl
  | x :: xs, y :: ys => by
    show ((x == y) && PyData.eqvAll (xs.map .int) (ys.map .int)) = _
    rw [eqvAll_ints xs ys, Bool.eq_iff_iff]
    simp
theorem eqv_ints (xs ys : List Int) : PyData.eqv (.list (xs.map .int)) (.list (ys.map .int)) = decide (xs = ys) := eqvAll_ints xs ys
theorem eqv_tints (xs ys : List Int) : PyData.eqv (.tuple (xs.map .int)) (.tuple (ys.map .int)) = decide (xs = ys) := eqvAll_ints xs ys
/-- a def with defaults that lets nothing out -/
theorem okD {P : Program} {w : World} {K : PySem.W.Frag} {mg : Str → Option Value} {base : Heap} {x qual : Str} {params : Arguments} {body : List Stmt} {scope : Scope} {dvs : List V} {kws : List (Str × V)} {f : Addr} {fd : FuncData} {N ps : List Str} {k : Nat} {sp : Sp}
    (F : FunD K x qual params body scope dvs kws f fd) (S : FnScope N ps scope) (len : ∀ vs H Q E, sp vs H Q E → vs.length = ps.length)
    (hb : ∀ (cdv : Value) (A : Around) (outer : List Env) (s : Shared) (H : Hp) (vs : List V) (Q : VK) (E : XK), Room k (A.deeper (envOfC qual scope s.heap.objs.size f cdv)) → sp vs H Q E →
      ∃ t, PSs (cxOf CX0 P w K mg base N qual scope f cdv A outer s H E).nox body t ∧ t { nx := fun _ H' => Q .non H', rt := Q } (start N vs) H) : FnOk P w K mg base CX0 (k + 1) f fd ps sp :=
  F.ok S len fun cdv A outer s H vs Q E hr h => by
    obtain ⟨t, h1, q⟩ := hb cdv A outer s H vs Q E hr h
    exact ⟨t, h1.nox, q⟩
/-! what an expression gives, whatever stands besides -/
def EI (te : TE) (σ : L2.St) (H : Hp) (v : V) : Prop := ∀ G, Same H G → ∀ Q : VK, Q v G → te σ G Q
def EA (ta : TA) (σ : L2.St) (H : Hp) (vs : List V) : Prop := ∀ G, Same H G → ∀ Q : List V → Hp → Prop, Q vs G → ta σ G Q
/-- a list, new or old -/
def EL (te : TE) (σ : L2.St) (H : Hp) (xs : List V) : Prop := ∀ G, Same H G → ∀ Q : VK, (∀ p G', Same G G' → G' p = some (.lst xs) → Q (.ref p) G') → te σ G Q
section
variable {K : PySem.W.Frag} {σ : L2.St} {H : Hp} {ta tb te : TE} {x y z v : V} {xs ys : List V}
theorem ei_var {i : Nat} (h : σ[i]? = some (some v)) : EI (tVar i) σ H v := fun _ _ _ q => ⟨v, h, q⟩
theorem ei_c : EI (tC v) σ H v := fun _ _ _ q => q
theorem ei_op {r : R2} (ha : EI ta σ H x) (hb : EI tb σ H y) (hr : ∀ G, Same H G → ∀ Q : VK, Q z G → r x y G Q) : EI (tOp r ta tb) σ H z := fun G s Q q => ha G s _ (hb G s _ (hr G s Q q))
theorem ei_i0 {g : Int → Int → V} {i j : Int} (ha : EI ta σ H (.int i)) (hb : EI tb σ H (.int j)) : EI (tOp (rI0 g) ta tb) σ H (g i j) := ei_op ha hb fun _ _ _ q => ⟨i, j, rfl, rfl, q⟩
theorem ei_ic {C : Int → Int → Prop} {g : Int → Int → V} {i j : Int} (ha : EI ta σ H (.int i)) (hb : EI tb σ H (.int j)) (hc : C i j) : EI (tOp (rI C g) ta tb) σ H (g i j) := ei_op ha hb fun _ _ _ q => ⟨i, j, rfl, rfl, hc, q⟩
theorem ea_nil : EA tNil σ H [] := fun _ _ _ q => q
theorem ea_cons {tr : TA} {vs : List V} (h : EI ta σ H x) (g : EA tr σ H vs) : EA (tCons ta tr) σ H (x :: vs) := fun G s _ q => h G s _ (g G s _ q)
theorem ei_cb {r : List V → Hp → VK → Prop} {tr : TA} {vs : List V} (ha : EA tr σ H vs) (hr : ∀ G, Same H G → ∀ Q : VK, Q z G → r vs G Q) : EI (tCB r tr) σ H z := fun G s Q q => ha G s _ (hr G s Q q)
/-- len of a list, list(..) of a list or a tuple, as they are read -/
def rLen (K : PySem.W.Frag) : List V → Hp → VK → Prop := fun xs H Q => ∃ p ys, xs = [.ref p] ∧ (SqL K H p ys ∨ SqT K H p ys) ∧ Q (.int ys.length) H
def rLst (K : PySem.W.Frag) : List V → Hp → VK → Prop := fun xs H Q => ∃ p ys, xs = [.ref p] ∧ (SqL K H p ys ∨ SqT K H p ys) ∧ ∀ l, H l = none → Q (.ref l) (upd H l (.lst ys))
def rTup (K : PySem.W.Frag) : List V → Hp → VK → Prop := fun xs H Q => ∃ p ys, xs = [.ref p] ∧ ((SqL K H p ys ∧ ∀ l, H l = none → Q (.ref l) (upd H l (.tup ys))) ∨ (SqT K H p ys ∧ Q (.ref p) H))
theorem callK_tuple {X : Cx} (h : X.K = K) : CallR X (.type "tuple") (rTup K) := by subst h; exact call_tuple_of
theorem callK_list {X : Cx} (h : X.K = K) : CallR X (.type "list") (rLst K) := by subst h; exact call_list_of
theorem opK_catA {X : Cx} (h : X.K = K) : OpR X (binaryOp .Add) (rCatA K) := by subst h; exact op_catA
theorem ixK_list {X : Cx} (h : X.K = K) : IxR X (rIxL K) := by subst h; exact ix_list
theorem ixK_tup {X : Cx} (h : X.K = K) : IxR X (rIxT K) := by subst h; exact ix_tup
theorem pe_fldK {X : Cx} {e : Expr} {f : Str} {pos : Pos} {ta : TE} (h : X.K = K) (he : PE X e ta) (hb : attributeBase e f X.env (eval e X.env) = eval e X.env) : PE X (.Attribute e f pos) (tFld K ta f) := by subst h; exact pe_fld he hb
theorem callK_len {X : Cx} (h : X.K = K) : CallR X (.builtin "len") (rLen K) := by subst h; exact call_len_seq
theorem ei_lenL {i : Nat} {p : Addr} (h : σ[i]? = some (some (.ref p))) (e : SqL K H p xs) : EI (tCB (rLen K) (tCons (tVar i) tNil)) σ H (.int (xs.length : Int)) := ei_cb (ea_cons (ei_var h) ea_nil) fun _ s _ q => ⟨p, xs, rfl, .inl (s.seq e), q⟩
theorem ei_lenT {i : Nat} {p : Addr} (h : σ[i]? = some (some (.ref p))) (e : SqT K H p xs) : EI (tCB (rLen K) (tCons (tVar i) tNil)) σ H (.int (xs.length : Int)) := ei_cb (ea_cons (ei_var h) ea_nil) fun _ s _ q => ⟨p, xs, rfl, .inr (sqt_same s e), q⟩
theorem ei_fld {i : Nat} {p C dx : Addr} {fs : List (Str × V)} {f : Str} (h : σ[i]? = some (some (.ref p))) (hp : H p = some (.ins C dx fs)) (c : Cls K C) (n : NoAttr K C f) (l : fs.lookup f = some v) : EI (tFld K (tVar i) f) σ H v := fun _ s _ q => ⟨.ref p, h, p, C, dx, fs, v, rfl, s _ _ hp, c, n, l, q⟩
theorem ei_din {td : TE} {d : Addr} {kvs : List (Key × V)} {k : Key} (hy : EI te σ H (kV k)) (hd : EI td σ H (.ref d)) (e : H d = some (.dK kvs)) : EI (tDIn te td) σ H (.bl (valV kvs k).isSome) := fun G s _ q => hy G s _ (hd G s _ ⟨d, _, rfl, DGet.k (s _ _ e), q⟩)
theorem ei_dnotin {td : TE} {d : Addr} {kvs : List (Key × V)} {k : Key} (hy : EI te σ H (kV k)) (hd : EI td σ H (.ref d)) (e : H d = some (.dK kvs)) : EI (tDNotIn te td) σ H (.bl (!(valV kvs k).isSome)) := fun G s _ q => hy G s _ (hd G s _ ⟨d, _, rfl, DGet.k (s _ _ e), q⟩)
theorem ei_dget {td : TE} {d : Addr} {kvs : List (Key × V)} {k : Key} (hy : EI te σ H (kV k)) (hd : EI td σ H (.ref d)) (e : H d = some (.dK kvs)) (hv : valV kvs k = some v) : EI (tDGet td te) σ H v := fun G s _ q => hd G s _ (hy G s _ ⟨d, v, rfl, by rw [← hv]; exact DGet.k (s _ _ e), q⟩)
theorem ei_ixL {p : Addr} {j : Int} (ha : EI ta σ H (.ref p)) (hi : EI tb σ H (.int j)) (e : SqL K H p xs) (h : atI xs j = some v) : EI (tOp (rIxL K) ta tb) σ H v := ei_op ha hi fun _ s _ q => ⟨p, xs, j, v, rfl, rfl, s.seq e, h, q⟩
theorem ei_ixT {p : Addr} {j : Int} (ha : EI ta σ H (.ref p)) (hi : EI tb σ H (.int j)) (e : SqT K H p xs) (h : atI xs j = some v) : EI (tOp (rIxT K) ta tb) σ H v := ei_op ha hi fun _ s _ q => ⟨p, xs, j, v, rfl, rfl, sqt_same s e, h, q⟩
theorem ei_eq (ha : EI ta σ H x) (hb : EI tb σ H y) (h : scal x y = true) : EI (tOp rEq ta tb) σ H (.bl (decide (x = y))) := ei_op ha hb fun _ _ _ q => ⟨h, q⟩
theorem ei_ne (ha : EI ta σ H x) (hb : EI tb σ H y) (h : scal x y = true) : EI (tOp rNe ta tb) σ H (.bl (!decide (x = y))) := ei_op ha hb fun _ _ _ q => ⟨h, q⟩
/-- a test by its value -/
theorem tt_use {b : Bool} {Q : Bool → Hp → Prop} (h : EI te σ H (.bl b)) (k : Q b H) : tTest te σ H Q := h H (Same.refl _) _ ⟨b, rfl, k⟩
theorem tb_use {b : Bool} {Q : Bool → Hp → Prop} (h : EI te σ H (.bl b)) (k : Q b H) : tB te σ H Q := h H (Same.refl _) _ ⟨b, rfl, k⟩
theorem el_var {i : Nat} {p : Addr} (h : σ[i]? = some (some (.ref p))) (e : H p = some (.lst xs)) : EL (tVar i) σ H xs := fun G s _ q => ⟨.ref p, h, q p G (Same.refl _) (s _ _ e)⟩
/-- a new list -/
def EN (te : TE) (σ : L2.St) (H : Hp) (xs : List V) : Prop := ∀ G, Same H G → ∀ Q : VK, (∀ p G', G p = none → Same G G' → G' p = some (.lst xs) → Q (.ref p) G') → te σ G Q
theorem EN.el (h : EN te σ H xs) : EL te σ H xs := fun G s Q q => h G s Q fun p G' _ => q p G'
theorem en_lst {tr : TA} {vs : List V} (ha : EA tr σ H vs) (hl : vs.length ≤ 90000) : EN (tLst tr) σ H vs := fun G s _ q => ha G s _ ⟨sz (by omega), fun p hp => q p _ hp (same_upd hp) upd_same⟩
theorem en_cat (ha : EL ta σ H xs) (hb : EL tb σ H ys) (hl : xs.length + ys.length ≤ 90000) : EN (tOp rCat ta tb) σ H (xs ++ ys) := fun G s _ q =>
  ha G s _ fun p G1 s1 e1 => hb G1 (s.trans s1) _ fun p2 G2 s2 e2 => ⟨p, p2, xs, ys, rfl, rfl, s2 _ _ e1, e2, sz (by omega), fun p3 h3 => q p3 _ ((s1.trans s2).free h3) ((s1.trans s2).trans (same_upd h3)) upd_same⟩
theorem en_rep {k : Int} (ha : EL ta σ H xs) (hb : EI tb σ H (.int k)) (h1 : -1000000 ≤ k) (h2 : k ≤ 1000000) (hl : xs.length * k.toNat ≤ 90000) : EN (tOp rRep ta tb) σ H (List.replicate k.toNat xs).flatten := fun G s _ q =>
  ha G s _ fun p G1 s1 e1 => hb G1 (s.trans s1) _ ⟨p, k, xs, rfl, rfl, e1, by omega, by omega, sz (by omega), fun p3 h3 => q p3 _ (s1.free h3) (s1.trans (same_upd h3)) upd_same⟩
theorem el_lst {tr : TA} {vs : List V} (ha : EA tr σ H vs) (hl : vs.length ≤ 90000) : EL (tLst tr) σ H vs := (en_lst ha hl).el
theorem el_cat (ha : EL ta σ H xs) (hb : EL tb σ H ys) (hl : xs.length + ys.length ≤ 90000) : EL (tOp rCat ta tb) σ H (xs ++ ys) := (en_cat ha hb hl).el
theorem el_rep {k : Int} (ha : EL ta σ H xs) (hb : EI tb σ H (.int k)) (h1 : -1000000 ≤ k) (h2 : k ≤ 1000000) (hl : xs.length * k.toNat ≤ 90000) : EL (tOp rRep ta tb) σ H (List.replicate k.toNat xs).flatten := (en_rep ha hb h1 h2 hl).el
theorem el_cb {r : List V → Hp → VK → Prop} {tr : TA} {vs : List V} (ha : EA tr σ H vs) (hr : ∀ G, Same H G → ∀ Q : VK, (∀ p G', Same G G' → G' p = some (.lst xs) → Q (.ref p) G') → r vs G Q) : EL (tCB r tr) σ H xs := fun G s Q q => ha G s _ (hr G s Q q)
theorem el_call {sp : Sp} {dvs : List V} {E : XK} {tr : TA} {vs : List V} (ha : EA tr σ H vs) (hr : ∀ G, Same H G → ∀ Q : VK, (∀ p G', Same G G' → G' p = some (.lst xs) → Q (.ref p) G') → sp (vs ++ dvs) G Q E) : EL (tCall sp dvs E tr) σ H xs := fun G s Q q => ha G s _ (hr G s Q q)
theorem el_listL {i : Nat} {p : Addr} (h : σ[i]? = some (some (.ref p))) (e : SqL K H p xs) : EL (tCB (rLst K) (tCons (tVar i) tNil)) σ H xs := el_cb (ea_cons (ei_var h) ea_nil) fun _ s _ q => ⟨p, xs, rfl, .inl (s.seq e), fun l hl => q l _ (same_upd hl) upd_same⟩
theorem el_listT {i : Nat} {p : Addr} (h : σ[i]? = some (some (.ref p))) (e : SqT K H p xs) : EL (tCB (rLst K) (tCons (tVar i) tNil)) σ H xs := el_cb (ea_cons (ei_var h) ea_nil) fun _ s _ q => ⟨p, xs, rfl, .inr (sqt_same s e), fun l hl => q l _ (same_upd hl) upd_same⟩
/-- x = an expression that gives a list -/
theorem EL.use {Q : VK} (h : EL te σ H xs) (k : ∀ p H', Same H H' → H' p = some (.lst xs) → Q (.ref p) H') : te σ H Q := h H (Same.refl _) Q k
theorem EN.use {Q : VK} (h : EN te σ H xs) (k : ∀ p H', H p = none → Same H H' → H' p = some (.lst xs) → Q (.ref p) H') : te σ H Q := h H (Same.refl _) Q k
theorem EI.use {Q : VK} (h : EI te σ H v) (k : Q v H) : te σ H Q := h H (Same.refl _) Q k
end
/-- defaults: what is bound where keywords give the rest -/
theorem kb_one {K : PySem.W.Frag} {x qual : Str} {params : Arguments} {body : List Stmt} {scope : Scope} {dvs : List V} {f : Addr} {fd : FuncData} {ps : List Str} (F : FunD K x qual params body scope dvs [] f fd) (n : Nat) (ks : List Str) (hd : dvs ≠ [])
    (h : ∀ (T : Addr) (kV doc pm : Value) (an : Option Addr) (cdv ct : Value) (us ws its : List Value), us.length = n → ws.length = ks.length → its.length = dvs.length →
      ∃ k, bindArgs (PySem.W.fnOf x qual params body scope (.ref T) kV doc pm an cdv ct) ⟨us, ks.zip ws⟩ = seqItems? (.ref T) >>= k ∧ k (some its.toArray) = pure (ps.zip (us ++ ws))) :
    KBn K fd ps n ks (fun us ws => us ++ ws) (fun vs zs => vs ++ zs) := by
  obtain ⟨oc, od, dV, kV, doc, pm, an, cdv, ct, osl, rfl, lk, hcd, hD, hK⟩ := F.ex
  rcases hD with ⟨e, _⟩ | ⟨_, T, o, its, m, rfl, lT, oT, rT⟩
  · exact absurd e hd
  · refine ⟨fun s us ws X h1 h2 => BindsTo.of_looks fun M => ?_, fun r1 r2 => r1.append r2⟩
    obtain ⟨k, e1, e2⟩ := h T kV doc pm an cdv ct us ws its h1 h2 rT.length.symm
    rw [e1]
    exact looks_items X lT oT (.of_pure e2)
theorem andV_use {ta tb : TE} {σ : L2.St} {H : Hp} {Q : VK} {x y : Bool} (h1 : EI ta σ H (.bl x)) (h2 : x = true → ∀ Q' : VK, (∀ H', Same H H' → Q' (.bl y) H') → tb σ H Q') (k : ∀ H', Same H H' → Q (.bl (x && y)) H') : tAndV ta tb σ H Q := by
  refine h1 H (Same.refl _) _ ⟨x, rfl, ?_⟩
  cases x with
  | true => exact (if_pos rfl).mpr (h2 rfl _ k)
  | false => exact (if_neg Bool.false_ne_true).mpr (k H (Same.refl _))
/-- what is locked and let go stands as it stood -/
theorem unlock {H H' : Hp} {d : Addr} {od : Obj} {u : HO} (e : H d = some u) (s : Same (upd H d (.frz od u)) H') : Same H (upd H' d u) := fun b o h => by
  by_cases hb : b = d
  · subst hb
    rw [upd_same, ← e]
    exact h
  · rw [upd_ne hb]
    exact s b o (by rw [upd_ne hb]; exact h)
theorem take_filter {α : Type} {l : List α} {i : Nat} {x : α} (f : α → Bool) (h : l[i]? = some x) : (l.take (i + 1)).filter f = (l.take i).filter f ++ if f x then [x] else [] := by
  rw [take_more h, List.filter_append]
  cases e : f x <;> simp [e]
/-- [e for k in d if t] over the keys of a dict, t and e change nothing -/
theorem lc_keys {td te : TE} {tt : TT} {s : Nat} {σ : L2.St} {H : Hp} {Q : VK} (d : Addr) (kvs : List (Key × V)) (f : Key → Bool) (g : Key → V) (e : H d = some (.dK kvs)) (hlen : kvs.length ≤ 90000)
    (htd : ∀ od, EI td σ (upd H d (.frz od (.dK kvs))) (.ref d))
    (hw : ∀ x, wipe ((wipe σ [s]).set s (some x)) [s] = wipe σ [s])
    (ht : ∀ (od : Obj) (i : Nat) (k : Key) (v : V) (G : Hp) (Q' : Bool → Hp → Prop), kvs[i]? = some (k, v) → Same (upd H d (.frz od (.dK kvs))) G → Q' (f k) G → tt ((wipe σ [s]).set s (some (kV k))) G Q')
    (he : ∀ (od : Obj) (i : Nat) (k : Key) (v : V) (G : Hp) (Q' : VK), kvs[i]? = some (k, v) → Same (upd H d (.frz od (.dK kvs))) G → Q' (g k) G → te ((wipe σ [s]).set s (some (kV k))) G Q')
    (k : ∀ D H', H D = none → Same H H' → H' D = some (.lst ((kvs.filter fun kv => f kv.1).map fun kv => g kv.1)) → Q (.ref D) H') : tLockE (tLc (iKeys td) (gName s) tt te [s]) σ H Q := by
  refine ⟨d, _, e, trivial, fun od => htd od _ (Same.refl _) _ ⟨d, od, rfl, .inl ⟨kvs, upd_same, fun D hD => ?_⟩⟩⟩
  have nD : D ≠ d := fun z => by rw [z, upd_same] at hD; cases hD
  have hD0 : H D = none := by rw [upd_ne nD] at hD; exact hD
  refine lc_it walk_keys (fun i G => Same (upd H d (.frz od (.dK kvs))) G ∧ G D = some (.lst (((kvs.take i).filter fun kv => f kv.1).map fun kv => g kv.1)))
    ⟨same_upd hD, upd_same⟩ (fun i G _ h => h.1 _ _ upd_same) (fun i x G G' hi hG hy => ?_) (fun G hG => ?_)
  · obtain ⟨rfl, key, v, hkv, rfl⟩ := hy
    have hfl : ((kvs.take i).filter fun kv => f kv.1).length ≤ 90000 := Nat.le_trans (List.length_filter_le _ _) (by rw [List.length_take]; omega)
    refine ⟨hw _, ht od i key v _ _ hkv hG.1 ?_⟩
    have hts := take_filter (fun kv : Key × V => f kv.1) hkv
    cases hf : f key with
    | true =>
      refine (if_pos rfl).mpr (he od i key v _ _ hkv hG.1 ⟨_, hG.2, szl (by rw [List.length_map]; omega), same_put hG.1 hD, ?_⟩)
      rw [upd_same, hts, List.map_append]
      simp only [hf, if_true]
      rfl
    | false =>
      refine (if_neg Bool.false_ne_true).mpr ⟨hG.1, ?_⟩
      rw [hts]
      simp only [hf, Bool.false_eq_true, if_false, List.append_nil]
      exact hG.2
  · rw [List.take_length] at hG
    refine ⟨hG.1 _ _ upd_same, k D _ hD0 (unlock e hG.1) ?_⟩
    rw [upd_ne nD]
    exact hG.2
theorem put_fresh {kvs : List (Key × V)} {k : Key} {v : V} (h : ∀ kv ∈ kvs, kv.1 ≠ k) : putK kvs k v = kvs ++ [(k, v)] := by
  unfold putK
  rw [if_neg]
  intro z
  obtain ⟨kv, hm, hk⟩ := List.any_eq_true.mp z
  exact h kv hm (of_decide_eq_true hk)
theorem nd_ne {α β : Type} {l : List (α × β)} {i : Nat} {x : α × β} (nd : (l.map (·.1)).Nodup) (h : l[i]? = some x) : ∀ y ∈ l.take i, y.1 ≠ x.1 := fun y hy z => by
  obtain ⟨j, hj, rfl⟩ := List.getElem_of_mem hy
  rw [List.length_take] at hj
  rw [List.getElem_take] at z
  obtain ⟨hi, rfl⟩ := List.getElem?_eq_some_iff.mp h
  have e1 : (l.map (·.1))[j]? = some l[i].1 := by rw [List.getElem?_map, List.getElem?_eq_getElem (by omega), ← z]; rfl
  have e2 : (l.map (·.1))[i]? = some l[i].1 := by rw [List.getElem?_map, List.getElem?_eq_getElem hi]; rfl
  have := nd_ix nd e1 e2
  omega
/-- {k: e for k in d if t} over the keys of a dict -/
theorem dc_keys {td tv : TE} {tt : TT} {s : Nat} {σ : L2.St} {H : Hp} {Q : VK} (d : Addr) (kvs : List (Key × V)) (f : Key → Bool) (g : Key × V → V) (e : H d = some (.dK kvs)) (hlen : kvs.length ≤ 90000) (nd : (kvs.map (·.1)).Nodup)
    (htd : ∀ od, EI td σ (upd H d (.frz od (.dK kvs))) (.ref d))
    (hw : ∀ x, wipe ((wipe σ [s]).set s (some x)) [s] = wipe σ [s])
    (ht : ∀ (od : Obj) (i : Nat) (k : Key) (v : V) (G : Hp) (Q' : Bool → Hp → Prop), kvs[i]? = some (k, v) → Same (upd H d (.frz od (.dK kvs))) G → Q' (f k) G → tt ((wipe σ [s]).set s (some (kV k))) G Q')
    (he : ∀ (od : Obj) (i : Nat) (k : Key) (v : V) (G : Hp) (Q' : VK), kvs[i]? = some (k, v) → f k = true → Same (upd H d (.frz od (.dK kvs))) G → Q' (g (k, v)) G → tv ((wipe σ [s]).set s (some (kV k))) G Q')
    (hn : ∀ i, (wipe σ [s]).length = i → s < i)
    (k : ∀ D H', H D = none → Same H H' → H' D = some (.dK ((kvs.filter fun kv => f kv.1).map fun kv => (kv.1, g kv))) → Q (.ref D) H') : tLockE (tDc (iKeys td) (gName s) tt (tVar s) tv [s]) σ H Q := by
  have hs : s < (wipe σ [s]).length := hn _ rfl
  refine ⟨d, _, e, trivial, fun od => htd od _ (Same.refl _) _ ⟨d, od, rfl, .inl ⟨kvs, upd_same, fun D hD => ?_⟩⟩⟩
  have nD : D ≠ d := fun z => by rw [z, upd_same] at hD; cases hD
  have hD0 : H D = none := by rw [upd_ne nD] at hD; exact hD
  let Pv : Nat → Hp → Prop := fun i G => Same (upd H d (.frz od (.dK kvs))) G ∧ G D = some (.dK (((kvs.take i).filter fun kv => f kv.1).map fun kv => (kv.1, g kv)))
  have step : ∀ i x G G', i < kvs.length → Pv i G → (G' = G ∧ ∃ k v, kvs[i]? = some (k, v) ∧ x = kV k) → gName s x (wipe σ [s]) G' fun σ2 H2 => wipe σ2 [s] = wipe σ [s] ∧ tt σ2 H2 fun b H3 =>
      if b = true then tVar s σ2 H3 fun y H4 => tv σ2 H4 fun z H5 => ∃ kvs' k', y = kV k' ∧ H5 D = some (.dK kvs') ∧ kvs'.length < sizeLine ∧ Pv (i + 1) (upd H5 D (.dK (putK kvs' k' z))) else Pv (i + 1) H3 := fun i x G G' hi hG hy => by
    obtain ⟨rfl, key, v, hkv, rfl⟩ := hy
    have hfl : ((kvs.take i).filter fun kv => f kv.1).length ≤ 90000 := Nat.le_trans (List.length_filter_le _ _) (by rw [List.length_take]; omega)
    refine ⟨hw _, ht od i key v _ _ hkv hG.1 ?_⟩
    have hts := take_filter (fun kv : Key × V => f kv.1) hkv
    cases hf : f key with
    | true =>
      refine (if_pos rfl).mpr ⟨kV key, by rw [List.getElem?_set_self hs], he od i key v _ _ hkv hf hG.1 ⟨_, key, rfl, hG.2, szl (by rw [List.length_map]; omega), same_put hG.1 hD, ?_⟩⟩
      rw [upd_same, hts, List.map_append, put_fresh]
      · simp only [hf, if_true]
        rfl
      · intro kv hm
        obtain ⟨y, hy, rfl⟩ := List.mem_map.mp hm
        exact nd_ne nd hkv y (List.mem_filter.mp hy).1
    | false =>
      refine (if_neg Bool.false_ne_true).mpr ⟨hG.1, ?_⟩
      rw [hts]
      simp only [hf, Bool.false_eq_true, if_false, List.append_nil]
      exact hG.2
  refine ⟨fun i m G => m = kvs.length - i ∧ i ≤ kvs.length ∧ Pv i G, ⟨kvs.length, by simp, Nat.zero_le _, same_upd hD, upd_same⟩, ?_⟩
  rintro i m G ⟨rfl, hi, hP⟩
  by_cases hlt : i < kvs.length
  · exact .inr ⟨⟨hP.1 _ _ upd_same, hlt⟩, Pv (i + 1), fun G' p' => ⟨kvs.length - (i + 1), by omega, rfl, hlt, p'⟩, fun x G' y => step i x G G' hlt hP y⟩
  · have ei : i = kvs.length := by omega
    subst ei
    obtain ⟨h1, h2⟩ := hP
    rw [List.take_length] at h2
    refine .inl ⟨⟨h1 _ _ upd_same, Nat.le_refl _⟩, h1 _ _ upd_same, k D _ hD0 (unlock e h1) ?_⟩
    rw [upd_ne nD]
    exact h2
/-! the same within a comprehension -/
section
variable {K : PySem.W.Frag} {X : Cx} {pos : Pos}
theorem pgK_tup {es : List Expr} {k : Nat} {t : TGs} {n : Nat} (hK : X.K = K) (hc : X.calm = true) (h : PGs X es t)
    (hn : (assignEach es X.env).length = n := by rfl) (hst : (assignEach es X.env).findIdx? (·.1) = none := by rfl) : PG X (.Tuple es k pos) (gTup K n t) := by subst hK; exact pg_tup hc h hn hst
theorem opK_in (h : X.K = K) : OpR X (compareOp .In) (rIn K false) := by subst h; exact op_in_seq
theorem opK_notIn (h : X.K = K) : OpR X (compareOp .NotIn) (rIn K true) := by subst h; exact op_notIn_seq
theorem opK_eqD (h : X.K = K) (hu : X.A.units + 64 < cLine) : OpR X (compareOp .Eq) (rEqD K) := by subst h; exact op_eqD hu
theorem opK_neD (h : X.K = K) (hu : X.A.units + 64 < cLine) : OpR X (compareOp .NotEq) (rNeD K) := by subst h; exact op_neD hu
theorem callK_isi (h : X.K = K) : CallR X (.builtin "isinstance") (rIsi K) := by subst h; exact call_isi
theorem slK_tup (h : X.K = K) : SlR X (rSlT K) := by subst h; exact sl_tup
end
end My
namespace My
open PySem PySem.Spec PyProof.Rows L2
/-! # a calculus of data: what a text without objects does -/
theorem upd_eq {H : Hp} {a b : Addr} {o : HO} (h : b = a) : upd H a o b = some o := by rw [h]; exact upd_same
abbrev AP := Addr → Prop
/-! data whose lists are lists -/
mutual
inductive Dq (K : PySem.W.Frag) (H : Hp) : V → PyData → Prop
  | non : Dq K H .non .none
  | bl (b : Bool) : Dq K H (.bl b) (.bool b)
  | int (i : Int) : Dq K H (.int i) (.int i)
  | str (x : Str) : Dq K H (.str x) (.str x)
  | lst {a : Addr} {xs : List V} {ds : List PyData} : H a = some (.lst xs) → DqAll K H xs ds → Dq K H (.ref a) (.list ds)
  | tup {a : Addr} {xs : List V} {ds : List PyData} : H a = some (.tup xs) → DqAll K H xs ds → Dq K H (.ref a) (.tuple ds)
inductive DqAll (K : PySem.W.Frag) (H : Hp) : List V → List PyData → Prop
  | nil : DqAll K H [] []
  | cons {v : V} {vs : List V} {d : PyData} {ds : List PyData} : Dq K H v d → DqAll K H vs ds → DqAll K H (v :: vs) (d :: ds)
end
mutual
theorem Dq.dp {K : PySem.W.Frag} {H : Hp} : ∀ (d : PyData) {v : V}, Dq K H v d → Dp K H v d
  | _, _, .non => .non
  | _, _, .bl b => .bl b
  | _, _, .int i => .int i
  | _, _, .str x => .str x
  | .list ds, _, .lst h a => .lst (sql h) (DqAll.dp ds a)
  | .tuple ds, _, .tup h a => .tup (sqt h) (DqAll.dp ds a)
theorem DqAll.dp {K : PySem.W.Frag} {H : Hp} : ∀ (ds : List PyData) {vs : List V}, DqAll K H vs ds → DpAll K H vs ds
  | [], _, .nil => .nil
  | d :: ds, _, .cons h a => .cons (Dq.dp d h) (DqAll.dp ds a)
end
mutual
theorem dq_same {K : PySem.W.Frag} {H H' : Hp} (e : Same H H') : ∀ (d : PyData) {v : V}, Dq K H v d → Dq K H' v d
  | _, _, .non => .non
  | _, _, .bl b => .bl b
  | _, _, .int i => .int i
  | _, _, .str x => .str x
  | .list ds, _, .lst h a => .lst (e _ _ h) (dqa_same e ds a)
  | .tuple ds, _, .tup h a => .tup (e _ _ h) (dqa_same e ds a)
theorem dqa_same {K : PySem.W.Frag} {H H' : Hp} (e : Same H H') : ∀ (ds : List PyData) {vs : List V}, DqAll K H vs ds → DqAll K H' vs ds
  | [], _, .nil => .nil
  | d :: ds, _, .cons h a => .cons (dq_same e d h) (dqa_same e ds a)
end
theorem dqa_len {K : PySem.W.Frag} {H : Hp} : ∀ {vs : List V} {ds : List PyData}, DqAll K H vs ds → vs.length = ds.length
  | _, _, .nil => rfl
  | _, _, .cons _ a => by rw [List.length_cons, List.length_cons, dqa_len a]
theorem dqa_at {K : PySem.W.Frag} {H : Hp} : ∀ {vs : List V} {ds : List PyData} {i : Nat} {d : PyData}, DqAll K H vs ds → ds[i]? = some d → ∃ v, vs[i]? = some v ∧ Dq K H v d
  | _, _, _, _, .nil, h => by simp at h
  | _, _, 0, _, .cons h _, e => ⟨_, rfl, by have := Option.some.inj e; subst this; exact h⟩
  | _, _, i + 1, _, .cons _ a, e => dqa_at (i := i) a (by simpa using e)
theorem dqa_atV {K : PySem.W.Frag} {H : Hp} {vs : List V} {ds : List PyData} {i : Nat} {v : V} (h : DqAll K H vs ds) (e : vs[i]? = some v) : ∃ d, ds[i]? = some d ∧ Dq K H v d := by
  have hi := (List.getElem?_eq_some_iff.mp e).1
  have hd : ds[i]? = some (ds[i]'(by rw [← dqa_len h]; exact hi)) := List.getElem?_eq_getElem _
  obtain ⟨v', h1, h2⟩ := dqa_at h hd
  rw [e] at h1
  cases h1
  exact ⟨_, hd, h2⟩
theorem dqa_app {K : PySem.W.Frag} {H : Hp} : ∀ {vs ws : List V} {ds es : List PyData}, DqAll K H vs ds → DqAll K H ws es → DqAll K H (vs ++ ws) (ds ++ es)
  | _, _, _, _, .nil, b => b
  | _, _, _, _, .cons h a, b => .cons h (dqa_app a b)
theorem dqa_take {K : PySem.W.Frag} {H : Hp} : ∀ {vs : List V} {ds : List PyData} (n : Nat), DqAll K H vs ds → DqAll K H (vs.take n) (ds.take n)
  | _, _, 0, _ => by rw [List.take_zero, List.take_zero]; exact .nil
  | _, _, n + 1, .nil => by rw [List.take_nil, List.take_nil]; exact .nil
  | _, _, n + 1, .cons h a => by rw [List.take_succ_cons, List.take_succ_cons]; exact .cons h (dqa_take n a)
theorem dqa_drop {K : PySem.W.Frag} {H : Hp} : ∀ {vs : List V} {ds : List PyData} (n : Nat), DqAll K H vs ds → DqAll K H (vs.drop n) (ds.drop n)
  | _, _, 0, h => h
  | _, _, n + 1, .nil => by rw [List.drop_nil, List.drop_nil]; exact .nil
  | _, _, n + 1, .cons h a => by rw [List.drop_succ_cons, List.drop_succ_cons]; exact dqa_drop n a
/-! scalars -/
def sc : V → PyData
  | .non => .none
  | .bl b => .bool b
  | .int i => .int i
  | .str x => .str x
  | _ => .none
def isSc : V → Bool
  | .non => true
  | .bl _ => true
  | .int _ => true
  | .str _ => true
  | _ => false
theorem dq_sc {K : PySem.W.Frag} {H : Hp} {v : V} (h : isSc v = true) : Dq K H v (sc v) := by
  cases v <;> first | constructor | cases h
theorem dqa_sc {K : PySem.W.Frag} {H : Hp} : ∀ {vs : List V}, vs.all isSc = true → DqAll K H vs (vs.map sc)
  | [], _ => .nil
  | v :: vs, h => by
    rw [List.all_cons, Bool.and_eq_true] at h
    exact .cons (dq_sc h.1) (dqa_sc h.2)
/-- data is a scalar -/
def isScD : PyData → Bool
  | .none => true
  | .bool _ => true
  | .int _ => true
  | .str _ => true
  | _ => false
def scV : PyData → V
  | .none => .non
  | .bool b => .bl b
  | .int i => .int i
  | .str x => .str x
  | _ => .non
theorem dq_scV {K : PySem.W.Frag} {H : Hp} {v : V} {d : PyData} (h : Dq K H v d) (hs : isScD d = true) : v = scV d := by
  cases h <;> first | rfl | cases hs
theorem dq_int {K : PySem.W.Frag} {H : Hp} {v : V} {i : Int} (h : Dq K H v (.int i)) : v = .int i := by cases h; rfl
theorem dq_str {K : PySem.W.Frag} {H : Hp} {v : V} {i : Str} (h : Dq K H v (.str i)) : v = .str i := by cases h; rfl
theorem dq_bl {K : PySem.W.Frag} {H : Hp} {v : V} {i : Bool} (h : Dq K H v (.bool i)) : v = .bl i := by cases h; rfl
theorem dq_non {K : PySem.W.Frag} {H : Hp} {v : V} (h : Dq K H v .none) : v = .non := by cases h; rfl
theorem dq_tup {K : PySem.W.Frag} {H : Hp} {v : V} {ds : List PyData} (h : Dq K H v (.tuple ds)) : ∃ p vs, v = .ref p ∧ SqT K H p vs ∧ DqAll K H vs ds := by cases h with | tup h a => exact ⟨_, _, rfl, sqt h, a⟩
theorem dq_tupH {K : PySem.W.Frag} {H : Hp} {v : V} {ds : List PyData} (h : Dq K H v (.tuple ds)) : ∃ p vs, v = .ref p ∧ H p = some (.tup vs) ∧ DqAll K H vs ds := by cases h with | tup h a => exact ⟨_, _, rfl, h, a⟩
theorem dq_lst {K : PySem.W.Frag} {H : Hp} {v : V} {ds : List PyData} (h : Dq K H v (.list ds)) : ∃ p vs, v = .ref p ∧ H p = some (.lst vs) ∧ DqAll K H vs ds := by cases h with | lst h a => exact ⟨_, _, rfl, h, a⟩
/-! steps: F are the addresses of what may change, B is what never changes -/
structure Stq (F : AP) (H B : Hp) (F' : AP) (H' B' : Hp) : Prop where
  b : Same B B'
  s : Same B' H'
  f : ∀ x, H x ≠ none → B x = none → B' x = none
  k : ∀ x o, H x = some o → ¬ F x → H' x = some o
  n : ∀ x, H x ≠ none → ¬ F x → ¬ F' x
  e : ∀ x, H x ≠ none → H' x ≠ none
section
variable {F F' F1 F2 : AP} {H B H' B' H1 B1 H2 B2 : Hp}
theorem Stq.refl (s : Same B H) : Stq F H B F H B := ⟨Same.refl _, s, fun _ _ h => h, fun _ _ h _ => h, fun _ _ h => h, fun _ h => h⟩
theorem Stq.trans (a : Stq F H B F1 H1 B1) (c : Stq F1 H1 B1 F2 H2 B2) : Stq F H B F2 H2 B2 where
  b := a.b.trans c.b
  s := c.s
  f := fun x h1 h2 => c.f x (a.e x h1) (a.f x h1 h2)
  k := fun x o h n => c.k x o (a.k x o h n) (a.n x (by rw [h]; simp) n)
  n := fun x h n => c.n x (a.e x h) (a.n x h n)
  e := fun x h => c.e x (a.e x h)
theorem Stq.pure (s : Same H H') (b : Same B B') (t : Same B' H') (f : ∀ x, H x ≠ none → B x = none → B' x = none) : Stq F H B F H' B' :=
  ⟨b, t, f, fun x o h _ => s x o h, fun _ _ h => h, fun x h z => by
    cases e : H x with
    | none => exact h e
    | some o => rw [s x o e] at z; cases z⟩
theorem b_none (s : Same B H) {p : Addr} (h : H p = none) : B p = none := by
  cases e : B p with
  | none => rfl
  | some o => rw [s p o e] at h; cases h
theorem same_bothU {p : Addr} {o : HO} (s : Same B H) : Same (upd B p o) (upd H p o) := same_both s
/-- a new thing that stays as it is -/
theorem Stq.newD (s : Same B H) {p : Addr} {o : HO} (hp : H p = none) : Stq F H B F (upd H p o) (upd B p o) :=
  .pure (same_upd hp) (same_upd (b_none s hp)) (same_both s) fun x h1 h2 => by rw [upd_ne (fun z => h1 (by rw [z]; exact hp))]; exact h2
theorem Stq.newO (s : Same B H) {p : Addr} {o : HO} (hp : H p = none) : Stq F H B F (upd H p o) B :=
  .pure (same_upd hp) (Same.refl _) (s.trans (same_upd hp)) fun _ _ h => h
/-- what is new since H and no data changes -/
theorem Stq.put (a : Stq F H B F1 H1 B1) {p : Addr} {o : HO} (h0 : H p = none) (hb : B1 p = none) : Stq F H B F1 (upd H1 p o) B1 where
  b := a.b
  s := fun x u h => by rw [upd_ne (fun z => by rw [z, hb] at h; cases h)]; exact a.s x u h
  f := a.f
  k := fun x u h n => by rw [upd_ne (fun z => by rw [z, h0] at h; cases h)]; exact a.k x u h n
  n := a.n
  e := fun x h => by
    by_cases hx : x = p
    · rw [hx, upd_same]; simp
    · rw [upd_ne hx]; exact a.e x h
end
/-! what may change, by its footprint -/
structure MR (M : Type) where
  rel : M → AP → Hp → Hp → Prop
  frame : ∀ {m F H B H' B'}, rel m F H B → (∀ x, F x → H' x = H x) → Same B B' → (∀ x, F x → B' x = none) → rel m F H' B'
  dom : ∀ {m F H B x}, rel m F H B → F x → H x ≠ none ∧ B x = none
def noM : MR Unit where
  rel := fun _ F _ _ => ∀ x, ¬ F x
  frame := fun h _ _ _ => h
  dom := fun h hx => absurd hx (h _)
/-! what is known of a value -/
inductive Rk where
  | d (x : PyData)
  | o (xs : List PyData)
  | l (xs : List PyData)
  | v (x : V)
  | c (xs : List PyData)
def RelR (K : PySem.W.Frag) (H0 : Hp) (F : AP) (H B : Hp) (v : V) : Rk → Prop
  | .d x => Dq K B v x
  | .o xs => ∃ p vs, v = .ref p ∧ H p = some (.lst vs) ∧ B p = none ∧ ¬ F p ∧ H0 p = none ∧ DqAll K B vs xs
  | .l xs => ∃ p vs, v = .ref p ∧ H p = some (.lst vs) ∧ ¬ F p ∧ DqAll K B vs xs
  | .v x => v = x
  | .c xs => ∃ p vs, v = .ref p ∧ (∀ G, SqT K G p vs) ∧ vs.all isSc = true ∧ vs.map sc = xs
section
variable {K : PySem.W.Frag} {F F' : AP} {H0 Hs H B H' B' : Hp} {v : V} {r : Rk}
theorem RelR.step (h : RelR K H0 F H B v r) (s : Stq F H B F' H' B') : RelR K H0 F' H' B' v r := by
  cases r with
  | d x => exact dq_same s.b x h
  | o xs =>
    obtain ⟨p, vs, rfl, h1, h2, h3, h4, h5⟩ := h
    have hn : H p ≠ none := by rw [h1]; simp
    exact ⟨p, vs, rfl, s.k _ _ h1 h3, s.f _ hn h2, s.n _ hn h3, h4, dqa_same s.b _ h5⟩
  | l xs =>
    obtain ⟨p, vs, rfl, h1, h3, h5⟩ := h
    have hn : H p ≠ none := by rw [h1]; simp
    exact ⟨p, vs, rfl, s.k _ _ h1 h3, s.n _ hn h3, dqa_same s.b _ h5⟩
  | v x => exact h
  | c x => exact h
theorem RelR.base (h : RelR K H0 F H B v r) (e : ∀ x, Hs x ≠ none → H0 x ≠ none) : RelR K Hs F H B v r := by
  cases r with
  | o xs =>
    obtain ⟨p, vs, rfl, h1, h2, h3, h4, h5⟩ := h
    exact ⟨p, vs, rfl, h1, h2, h3, Classical.byContradiction fun z => e p z h4, h5⟩
  | d x => exact h
  | l xs => exact h
  | v x => exact h
  | c x => exact h
end
def RelA (K : PySem.W.Frag) (H0 : Hp) (F : AP) (H B : Hp) : List V → List Rk → Prop
  | [], [] => True
  | v :: vs, r :: rs => RelR K H0 F H B v r ∧ RelA K H0 F H B vs rs
  | _, _ => False
theorem RelA.step {K : PySem.W.Frag} {F F' : AP} {H0 H B H' B' : Hp} (s : Stq F H B F' H' B') : ∀ {vs : List V} {rs : List Rk}, RelA K H0 F H B vs rs → RelA K H0 F' H' B' vs rs
  | [], [], _ => True.intro
  | _ :: _, _ :: _, h => ⟨h.1.step s, h.2.step s⟩
  | [], _ :: _, h => h.elim
  | _ :: _, [], h => h.elim
/-! what is known of a slot -/
inductive Sl where
  | u
  | d (x : PyData)
  | o (xs : List PyData)
  | v (x : V)
  | l (xs : List PyData)
def SlD (K : PySem.W.Frag) (H0 : Hp) (F : AP) (H B : Hp) (w : Option V) : Sl → Prop
  | .u => True
  | .d x => ∃ v, w = some v ∧ Dq K B v x
  | .o xs => ∃ p vs, w = some (.ref p) ∧ H p = some (.lst vs) ∧ B p = none ∧ ¬ F p ∧ H0 p = none ∧ DqAll K B vs xs
  | .v x => w = some x
  | .l xs => ∃ p vs, w = some (.ref p) ∧ H p = some (.lst vs) ∧ ¬ F p ∧ H0 p ≠ none ∧ DqAll K B vs xs
theorem SlD.step {K : PySem.W.Frag} {F F' : AP} {H0 H B H' B' : Hp} {w : Option V} {s : Sl} (h : SlD K H0 F H B w s) (q : Stq F H B F' H' B') : SlD K H0 F' H' B' w s := by
  cases s with
  | u => exact True.intro
  | d x => obtain ⟨v, h1, h2⟩ := h; exact ⟨v, h1, dq_same q.b x h2⟩
  | o xs =>
    obtain ⟨p, vs, rfl, h1, h2, h3, h4, h5⟩ := h
    have hn : H p ≠ none := by rw [h1]; simp
    exact ⟨p, vs, rfl, q.k _ _ h1 h3, q.f _ hn h2, q.n _ hn h3, h4, dqa_same q.b _ h5⟩
  | v x => exact h
  | l xs =>
    obtain ⟨p, vs, rfl, h1, h3, h4, h5⟩ := h
    have hn : H p ≠ none := by rw [h1]; simp
    exact ⟨p, vs, rfl, q.k _ _ h1 h3, q.n _ hn h3, h4, dqa_same q.b _ h5⟩
structure DS {M : Type} (R : MR M) (K : PySem.W.Frag) (E : XK) (XP : Addr → M → Prop) (F0 : AP) (H0 B0 : Hp) (F : AP) (H B : Hp) (σ : L2.St) (ρ : List Sl) (m : M) : Prop where
  l : σ.length = ρ.length
  st : Stq F0 H0 B0 F H B
  r : R.rel m F H B
  s : ∀ (i : Nat) (t : Sl), ρ[i]? = some t → ∃ w, σ[i]? = some w ∧ SlD K H0 F H B w t
  oo : ∀ (i j : Nat) (p : Addr) (xs ys : List PyData), ρ[i]? = some (.o xs) → ρ[j]? = some (.o ys) → σ[i]? = some (some (.ref p)) → σ[j]? = some (some (.ref p)) → i = j
  x : ∀ C m' F' H' B', XP C m' → Stq F0 H0 B0 F' H' B' → R.rel m' F' H' B' → E (.ref C) none H'
section
variable {M : Type} {R : MR M} {K : PySem.W.Frag} {E : XK} {XP : Addr → M → Prop} {F0 F F' : AP} {H0 B0 H B H' B' : Hp} {σ : L2.St} {ρ : List Sl} {m m' : M}
theorem DS.step (h : DS R K E XP F0 H0 B0 F H B σ ρ m) (q : Stq F H B F' H' B') (r : R.rel m' F' H' B') : DS R K E XP F0 H0 B0 F' H' B' σ ρ m' :=
  ⟨h.l, h.st.trans q, r, fun i t ht => by obtain ⟨w, h1, h2⟩ := h.s i t ht; exact ⟨w, h1, h2.step q⟩, h.oo, h.x⟩
theorem DS.pure (h : DS R K E XP F0 H0 B0 F H B σ ρ m) (s : Same H H') (b : Same B B') (t : Same B' H') (f : ∀ x, H x ≠ none → B x = none → B' x = none) : DS R K E XP F0 H0 B0 F H' B' σ ρ m :=
  h.step (.pure s b t f) (R.frame h.r (fun x hx => by
    obtain ⟨h1, _⟩ := R.dom h.r hx
    cases e : H x with
    | none => exact absurd e h1
    | some o => exact s x o e) b fun x hx => f x (R.dom h.r hx).1 (R.dom h.r hx).2)
theorem DS.newD (h : DS R K E XP F0 H0 B0 F H B σ ρ m) {p : Addr} {o : HO} (hp : H p = none) : DS R K E XP F0 H0 B0 F (upd H p o) (upd B p o) σ ρ m :=
  h.pure (same_upd hp) (same_upd (b_none h.st.s hp)) (same_both h.st.s) fun x h1 h2 => by rw [upd_ne (fun z => h1 (by rw [z]; exact hp))]; exact h2
theorem DS.newO (h : DS R K E XP F0 H0 B0 F H B σ ρ m) {p : Addr} {o : HO} (hp : H p = none) : DS R K E XP F0 H0 B0 F (upd H p o) B σ ρ m :=
  h.pure (same_upd hp) (Same.refl _) (h.st.s.trans (same_upd hp)) fun _ _ z => z
theorem DS.nF (h : DS R K E XP F0 H0 B0 F H B σ ρ m) {p : Addr} (hp : H p = none) : ¬ F p := fun z => (R.dom h.r z).1 hp
theorem DS.nFB (h : DS R K E XP F0 H0 B0 F H B σ ρ m) {p : Addr} {o : HO} (hp : B p = some o) : ¬ F p := fun z => by have := (R.dom h.r z).2; rw [hp] at this; cases this
end
/-! ## expressions -/
section
variable {M : Type} (R : MR M) (K : PySem.W.Frag) (E : XK) (XP : Addr → M → Prop)
@[irreducible] def WE (ρ : List Sl) (m : M) (te : TE) (k : Rk → M → Prop) : Prop := ∀ {F0 H0 B0 F H B σ}, DS R K E XP F0 H0 B0 F H B σ ρ m → ∀ Q : VK, (∀ v r m' F' H' B', k r m' → DS R K E XP F0 H0 B0 F' H' B' σ ρ m' → Stq F H B F' H' B' → RelR K H F' H' B' v r → Q v H') → te σ H Q
@[irreducible] def WA (ρ : List Sl) (m : M) (ta : TA) (k : List Rk → M → Prop) : Prop := ∀ {F0 H0 B0 F H B σ}, DS R K E XP F0 H0 B0 F H B σ ρ m → ∀ Q : List V → Hp → Prop, (∀ vs rs m' F' H' B', k rs m' → DS R K E XP F0 H0 B0 F' H' B' σ ρ m' → Stq F H B F' H' B' → RelA K H F' H' B' vs rs → Q vs H') → ta σ H Q
@[irreducible] def WT (ρ : List Sl) (m : M) (tt : TT) (k : Bool → M → Prop) : Prop := ∀ {F0 H0 B0 F H B σ}, DS R K E XP F0 H0 B0 F H B σ ρ m → ∀ Q : Bool → Hp → Prop, (∀ b m' F' H' B', k b m' → DS R K E XP F0 H0 B0 F' H' B' σ ρ m' → Stq F H B F' H' B' → Q b H') → tt σ H Q
/-- an operator by what is known of its two sides -/
@[irreducible] def OpP (ρ : List Sl) (m : M) (r : R2) (a b : Rk) (k : Rk → M → Prop) : Prop := ∀ {F0 H0 B0 F H B σ Hs x y}, DS R K E XP F0 H0 B0 F H B σ ρ m → RelR K Hs F H B x a → RelR K Hs F H B y b → ∀ Q : VK, (∀ v c m' F' H' B', k c m' → DS R K E XP F0 H0 B0 F' H' B' σ ρ m' → Stq F H B F' H' B' → RelR K H F' H' B' v c → Q v H') → r x y H Q
@[irreducible] def CbP (ρ : List Sl) (m : M) (r : List V → Hp → VK → Prop) (rs : List Rk) (k : Rk → M → Prop) : Prop := ∀ {F0 H0 B0 F H B σ Hs vs}, DS R K E XP F0 H0 B0 F H B σ ρ m → RelA K Hs F H B vs rs → ∀ Q : VK, (∀ v c m' F' H' B', k c m' → DS R K E XP F0 H0 B0 F' H' B' σ ρ m' → Stq F H B F' H' B' → RelR K H F' H' B' v c → Q v H') → r vs H Q
end
section
variable {M : Type} {R : MR M} {K : PySem.W.Frag} {E : XK} {XP : Addr → M → Prop} {ρ : List Sl} {m : M} {k : Rk → M → Prop} {ta tb tc te : TE} {i : Nat}
theorem we_var {x : PyData} (h : ρ[i]? = some (.d x)) (hk : k (.d x) m) : WE R K E XP ρ m (tVar i) k := by with_unfolding_all exact (fun D Q q => by
  obtain ⟨w, h1, v, rfl, h2⟩ := D.s i _ h
  exact ⟨v, h1, q v _ m _ _ _ hk D (.refl D.st.s) h2⟩)
theorem we_varO {xs : List PyData} (h : ρ[i]? = some (.o xs)) (hk : k (.l xs) m) : WE R K E XP ρ m (tVar i) k := by with_unfolding_all exact (fun D Q q => by
  obtain ⟨w, h1, p, vs, rfl, h2, h3, h4, h5, h6⟩ := D.s i _ h
  exact ⟨_, h1, q _ (.l xs) m _ _ _ hk D (.refl D.st.s) ⟨p, vs, rfl, h2, h4, h6⟩⟩)
theorem we_varV {x : V} (h : ρ[i]? = some (.v x)) (hk : k (.v x) m) : WE R K E XP ρ m (tVar i) k := by with_unfolding_all exact (fun D Q q => by
  obtain ⟨w, h1, rfl⟩ := D.s i _ h
  exact ⟨x, h1, q x (.v x) m _ _ _ hk D (.refl D.st.s) rfl⟩)
theorem we_c {v : V} (hv : isSc v = true) (hk : k (.d (sc v)) m) : WE R K E XP ρ m (tC v) k := by with_unfolding_all exact (fun D Q q => q v _ m _ _ _ hk D (.refl D.st.s) (dq_sc hv))
theorem we_int {i : Int} (hk : k (.d (.int i)) m) : WE R K E XP ρ m (tC (.int i)) k := we_c rfl hk
theorem we_str {i : Str} (hk : k (.d (.str i)) m) : WE R K E XP ρ m (tC (.str i)) k := we_c rfl hk
theorem we_bl {i : Bool} (hk : k (.d (.bool i)) m) : WE R K E XP ρ m (tC (.bl i)) k := we_c rfl hk
theorem we_non (hk : k (.d .none) m) : WE R K E XP ρ m (tC .non) k := we_c rfl hk
theorem we_cV {v : V} (hk : k (.v v) m) : WE R K E XP ρ m (tC v) k := by with_unfolding_all exact (fun D Q q => q v _ m _ _ _ hk D (.refl D.st.s) rfl)
/-- a written tuple of scalars -/
theorem we_cT {p : Addr} {vs : List V} (hT : ∀ H, SqT K H p vs) (hv : vs.all isSc = true) (hk : k (.c (vs.map sc)) m) : WE R K E XP ρ m (tC (.ref p)) k := by with_unfolding_all exact (fun D Q q => q _ _ m _ _ _ hk D (.refl D.st.s) ⟨p, vs, rfl, hT, hv, rfl⟩)
theorem we_op {r : R2} (h : WE R K E XP ρ m ta fun a m1 => WE R K E XP ρ m1 tb fun b m2 => OpP R K E XP ρ m2 r a b k) : WE R K E XP ρ m (tOp r ta tb) k := by with_unfolding_all exact (fun D Q q =>
  h D _ fun v a m1 F1 H1 B1 k1 D1 q1 r1 => k1 D1 _ fun w b m2 F2 H2 B2 k2 D2 q2 r2 => k2 D2 (r1.step q2) (r2.base fun x hx => q1.e x hx) _ fun v c m' F' H' B' k3 D3 q3 r3 => q v c m' F' H' B' k3 D3 (q1.trans (q2.trans q3)) (r3.base fun x hx => q2.e x (q1.e x hx)))
theorem wa_nil {k : List Rk → M → Prop} (hk : k [] m) : WA R K E XP ρ m tNil k := by with_unfolding_all exact (fun D Q q => q [] [] m _ _ _ hk D (.refl D.st.s) True.intro)
theorem relA_base {H0 Hs : Hp} {F : AP} {H B : Hp} (e : ∀ x, Hs x ≠ none → H0 x ≠ none) : ∀ {vs : List V} {rs : List Rk}, RelA K H0 F H B vs rs → RelA K Hs F H B vs rs
  | [], [], _ => True.intro
  | _ :: _, _ :: _, h => ⟨h.1.base e, relA_base e h.2⟩
  | [], _ :: _, h => h.elim
  | _ :: _, [], h => h.elim
theorem wa_cons {k : List Rk → M → Prop} {tr : TA} (h : WE R K E XP ρ m ta fun a m1 => WA R K E XP ρ m1 tr fun rs m2 => k (a :: rs) m2) : WA R K E XP ρ m (tCons ta tr) k := by with_unfolding_all exact (fun D Q q =>
  h D _ fun v a m1 F1 H1 B1 k1 D1 q1 r1 => k1 D1 _ fun vs rs m2 F2 H2 B2 k2 D2 q2 r2 => q _ _ m2 F2 H2 B2 k2 D2 (q1.trans q2) ⟨r1.step q2, relA_base (fun x hx => q1.e x hx) r2⟩)
theorem we_cb {r : List V → Hp → VK → Prop} {tr : TA} (h : WA R K E XP ρ m tr fun rs m1 => CbP R K E XP ρ m1 r rs k) : WE R K E XP ρ m (tCB r tr) k := by with_unfolding_all exact (fun D Q q =>
  h D _ fun vs rs m1 F1 H1 B1 k1 D1 q1 r1 => k1 D1 r1 _ fun v c m' F' H' B' k3 D3 q3 r3 => q v c m' F' H' B' k3 D3 (q1.trans q3) (r3.base fun x hx => q1.e x hx))
/-! tests -/
theorem wt_test {k : Bool → M → Prop} (h : WE R K E XP ρ m te fun r m1 => ∃ b, r = .d (.bool b) ∧ k b m1) : WT R K E XP ρ m (tTest te) k := by with_unfolding_all exact (fun D Q q =>
  h D _ fun v r m1 F1 H1 B1 ⟨b, e, k1⟩ D1 q1 r1 => by
    subst e
    exact ⟨b, dq_bl r1, q b m1 _ _ _ k1 D1 q1⟩)
theorem wt_b {k : Bool → M → Prop} (h : WE R K E XP ρ m te fun r m1 => ∃ b, r = .d (.bool b) ∧ k b m1) : WT R K E XP ρ m (tB te) k := by with_unfolding_all exact (fun D Q q =>
  h D _ fun v r m1 F1 H1 B1 ⟨b, e, k1⟩ D1 q1 r1 => by
    subst e
    exact ⟨b, dq_bl r1, q b m1 _ _ _ k1 D1 q1⟩)
theorem wt_not {k : Bool → M → Prop} {t : TT} (h : WT R K E XP ρ m t fun b m1 => k (!b) m1) : WT R K E XP ρ m (tNot t) k := by with_unfolding_all exact (fun D Q q => h D _ fun b m1 F1 H1 B1 k1 D1 q1 => q _ m1 _ _ _ k1 D1 q1)
theorem wt_and {k : Bool → M → Prop} {t u : TT} (h : WT R K E XP ρ m t fun b m1 => (b = true → WT R K E XP ρ m1 u k) ∧ (b = false → k false m1)) : WT R K E XP ρ m (tAnd t u) k := by with_unfolding_all exact (fun D Q q => h D _ fun b m1 F1 H1 B1 k1 D1 q1 => by
  cases b with
  | true => exact (if_pos rfl).mpr (k1.1 rfl D1 _ fun c m2 F2 H2 B2 k2 D2 q2 => q c m2 _ _ _ k2 D2 (q1.trans q2))
  | false => exact (if_neg Bool.false_ne_true).mpr (q _ m1 _ _ _ (k1.2 rfl) D1 q1))
theorem wt_or {k : Bool → M → Prop} {t u : TT} (h : WT R K E XP ρ m t fun b m1 => (b = false → WT R K E XP ρ m1 u k) ∧ (b = true → k true m1)) : WT R K E XP ρ m (tOr t u) k := by with_unfolding_all exact (fun D Q q => h D _ fun b m1 F1 H1 B1 k1 D1 q1 => by
  cases b with
  | false => exact (if_neg Bool.false_ne_true).mpr (k1.1 rfl D1 _ fun c m2 F2 H2 B2 k2 D2 q2 => q c m2 _ _ _ k2 D2 (q1.trans q2))
  | true => exact (if_pos rfl).mpr (q _ m1 _ _ _ (k1.2 rfl) D1 q1))
theorem we_andV (h : WE R K E XP ρ m ta fun r m1 => ∃ b, r = .d (.bool b) ∧ (b = true → WE R K E XP ρ m1 tb k) ∧ (b = false → k (.d (.bool false)) m1)) : WE R K E XP ρ m (tAndV ta tb) k := by with_unfolding_all exact (fun D Q q =>
  h D _ fun v r m1 F1 H1 B1 ⟨b, e, k1, k2⟩ D1 q1 r1 => by
    subst e
    refine ⟨b, dq_bl r1, ?_⟩
    cases b with
    | true => exact (if_pos rfl).mpr (k1 rfl D1 _ fun v c m' F' H' B' k3 D3 q3 r3 => q v c m' F' H' B' k3 D3 (q1.trans q3) (r3.base fun x hx => q1.e x hx))
    | false => exact (if_neg Bool.false_ne_true).mpr (q _ _ m1 _ _ _ (k2 rfl) D1 q1 (.bl false)))
theorem we_orV (h : WE R K E XP ρ m ta fun r m1 => ∃ b, r = .d (.bool b) ∧ (b = false → WE R K E XP ρ m1 tb k) ∧ (b = true → k (.d (.bool true)) m1)) : WE R K E XP ρ m (tOrV ta tb) k := by with_unfolding_all exact (fun D Q q =>
  h D _ fun v r m1 F1 H1 B1 ⟨b, e, k1, k2⟩ D1 q1 r1 => by
    subst e
    refine ⟨b, dq_bl r1, ?_⟩
    cases b with
    | false => exact (if_neg Bool.false_ne_true).mpr (k1 rfl D1 _ fun v c m' F' H' B' k3 D3 q3 r3 => q v c m' F' H' B' k3 D3 (q1.trans q3) (r3.base fun x hx => q1.e x hx))
    | true => exact (if_pos rfl).mpr (q _ _ m1 _ _ _ (k2 rfl) D1 q1 (.bl true)))
theorem we_notV (h : WE R K E XP ρ m ta fun r m1 => ∃ b, r = .d (.bool b) ∧ k (.d (.bool (!b))) m1) : WE R K E XP ρ m (tNotV ta) k := by with_unfolding_all exact (fun D Q q =>
  h D _ fun v r m1 F1 H1 B1 ⟨b, e, k1⟩ D1 q1 r1 => by
    subst e
    exact ⟨b, dq_bl r1, q _ _ m1 _ _ _ k1 D1 q1 (.bl _)⟩)
theorem we_if {t : TT} (h : WT R K E XP ρ m t fun b m1 => (b = true → WE R K E XP ρ m1 ta k) ∧ (b = false → WE R K E XP ρ m1 tb k)) : WE R K E XP ρ m (tIf t ta tb) k := by with_unfolding_all exact (fun D Q q =>
  h D _ fun b m1 F1 H1 B1 k1 D1 q1 => by
    cases b with
    | true => exact (if_pos rfl).mpr (k1.1 rfl D1 _ fun v c m' F' H' B' k3 D3 q3 r3 => q v c m' F' H' B' k3 D3 (q1.trans q3) (r3.base fun x hx => q1.e x hx))
    | false => exact (if_neg Bool.false_ne_true).mpr (k1.2 rfl D1 _ fun v c m' F' H' B' k3 D3 q3 r3 => q v c m' F' H' B' k3 D3 (q1.trans q3) (r3.base fun x hx => q1.e x hx)))
end
/-! ## operators and calls of built-ins -/
/-- an item of a list of data -/
def LR : Rk → List PyData → Prop
  | .d (.list xs), ys => xs = ys
  | .o xs, ys => xs = ys
  | .l xs, ys => xs = ys
  | _, _ => False
def isNoneD : PyData → Bool
  | .none => true
  | _ => false
/-- kinds for isinstance -/
def kindD : PyData → String
  | .none => "NoneType"
  | .bool _ => "bool"
  | .int _ => "int"
  | .str _ => "str"
  | .list _ => "list"
  | .tuple _ => "tuple"
  | .dict _ => "dict"
def isKD (k t : String) : Bool := k == t || (k == "bool" && t == "int")
theorem dq_tyx {K : PySem.W.Frag} {H : Hp} {v : V} {d : PyData} (h : Dq K H v d) : TyX K H v (.type (kindD d)) := by
  cases h with
  | non => exact .base .non
  | bl b => exact .base (.bl b)
  | int i => exact .base (.int i)
  | str x => exact .base (.str x)
  | lst h _ => exact tyx_l (sql h)
  | tup h _ => exact tyx_t (sqt h)
theorem dp_tyxD {K : PySem.W.Frag} {H : Hp} {v : V} {d : PyData} (h : Dp K H v d) : TyX K H v (.type (kindD d)) := by
  cases h with
  | non => exact .base .non
  | bl b => exact .base (.bl b)
  | int i => exact .base (.int i)
  | str x => exact .base (.str x)
  | lst h _ => exact tyx_l h
  | tup h _ => exact tyx_t h
theorem kindD_dp {K : PySem.W.Frag} {H : Hp} {v : V} {d : PyData} (h : Dp K H v d) : kindD d ∈ (["NoneType", "bool", "int", "str", "list", "tuple"] : List String) := by cases h <;> simp [kindD]
theorem kitKD : ∀ k ∈ (["NoneType", "bool", "int", "str", "list", "tuple"] : List String), ∀ t ∈ (["bool", "int", "str", "tuple", "list"] : List String), kitB k t = some (isKD k t) := by decide +kernel
theorem kindD_in {K : PySem.W.Frag} {H : Hp} {v : V} {d : PyData} (h : Dq K H v d) : kindD d ∈ (["NoneType", "bool", "int", "str", "list", "tuple"] : List String) := by
  cases h <;> simp [kindD]
/-! readings by name -/
def rAddS : R2 := fun x y H Q => ∃ i j, x = .str i ∧ y = .str j ∧ i.length + j.length ≤ sizeLine ∧ Q (.str (i ++ j)) H
theorem op_addS {X : Cx} : OpR X (binaryOp .Add) rAddS := op_add_str
def rLtS : R2 := fun x y H Q => ∃ i j, x = .str i ∧ y = .str j ∧ Q (.bl (decide (i.cps.toList < j.cps.toList))) H
theorem op_ltS {X : Cx} : OpR X (compareOp .Lt) rLtS := op_lt_str
def rLenS : List V → Hp → VK → Prop := fun xs H Q => ∃ z, xs = [.str z] ∧ z.length ≤ sizeLine ∧ Q (.int z.length) H
theorem call_lenS {X : Cx} : CallR X (.builtin "len") rLenS := call_len_str
def rInt1 : List V → Hp → VK → Prop := fun xs H Q => (∃ i, xs = [.int i] ∧ Q (.int i) H) ∨ ∃ k, xs = [.bl k] ∧ Q (.int (if k then 1 else 0)) H
theorem call_intN {X : Cx} : CallR X (.type "int") rInt1 := call_int1
def rStrI : List V → Hp → VK → Prop := fun xs H Q => ∃ i, xs = [.int i] ∧ i.natAbs.log2 < 1920 ∧ Q (.str (toString i)) H
theorem call_strN {X : Cx} : CallR X (.type "str") rStrI := call_str_int
theorem opK_inD {K : PySem.W.Frag} {X : Cx} (h : X.K = K) (hu : X.A.units + 65 < cLine) : OpR X (compareOp .In) (rInD K) := by subst h; exact op_inD hu
theorem opK_notInD {K : PySem.W.Frag} {X : Cx} (h : X.K = K) (hu : X.A.units + 65 < cLine) : OpR X (compareOp .NotIn) (rNotInD K) := by subst h; exact op_notInD hu
theorem slK_tupA {K : PySem.W.Frag} {X : Cx} (h : X.K = K) : SlR X (rSlA K) := by subst h; exact sl_tupA
theorem slKx_list {K : PySem.W.Frag} {X : Cx} (h : X.K = K) : SlR X (rSlL K) := by subst h; exact sl_list
theorem piK_list {K : PySem.W.Frag} {X : Cx} {tg l : Expr} {tl : TE} (h : X.K = K) (hl : PE X l tl) : PI X tg l (iList K tl) := by subst h; exact pi_list hl
theorem piK_tup {K : PySem.W.Frag} {X : Cx} {tg l : Expr} {tl : TE} (h : X.K = K) (hl : PE X l tl) : PI X tg l (iTup K tl) := by subst h; exact pi_tup hl
theorem ptK_truth {K : PySem.W.Frag} {X : Cx} {a : Expr} {ta : TE} (h : X.K = K) (ha : PE X a ta) (he : ∀ whole, isTrue a X.env whole = (do let v ← whole; standAt a.pos; holding [v] (truthy v))) : PT X a (tTru K ta) := by subst h; exact pt_truth ha he
section
variable {M : Type} {R : MR M} {K : PySem.W.Frag} {E : XK} {XP : Addr → M → Prop} {ρ : List Sl} {m : M} {k : Rk → M → Prop} {ta tb tc te : TE}
/-- an operator that gives a scalar and changes nothing -/
theorem opP_sc {r : R2} {a b : Rk} {v : V} (hv : isSc v = true) (h : ∀ {Hs F H B x y}, Same B H → RelR K Hs F H B x a → RelR K Hs F H B y b → ∀ Q : VK, Q v H → r x y H Q) (hk : k (.d (sc v)) m) : OpP R K E XP ρ m r a b k := by with_unfolding_all exact (fun D ra rb Q q =>
  h D.st.s ra rb Q (q _ _ m _ _ _ hk D (.refl D.st.s) (dq_sc hv)))
theorem opP_i0 {g : Int → Int → V} {i j : Int} (hk : k (.d (sc (g i j))) m) (hv : isSc (g i j) = true := by rfl) : OpP R K E XP ρ m (rI0 g) (.d (.int i)) (.d (.int j)) k :=
  opP_sc hv (fun _ ra rb Q q => ⟨i, j, dq_int ra, dq_int rb, q⟩) hk
theorem opP_ic {C : Int → Int → Prop} {g : Int → Int → V} {i j : Int} (hc : C i j) (hk : k (.d (sc (g i j))) m) (hv : isSc (g i j) = true := by rfl) : OpP R K E XP ρ m (rI C g) (.d (.int i)) (.d (.int j)) k :=
  opP_sc hv (fun _ ra rb Q q => ⟨i, j, dq_int ra, dq_int rb, hc, q⟩) hk
theorem opP_eqI {i j : Int} (hk : k (.d (.bool (decide (i = j)))) m) : OpP R K E XP ρ m rEq (.d (.int i)) (.d (.int j)) k :=
  opP_sc (v := .bl (decide (i = j))) rfl (fun _ ra rb Q q => by
    rw [dq_int ra, dq_int rb]
    refine ⟨rfl, ?_⟩
    have : decide (V.int i = V.int j) = decide (i = j) := by rw [Bool.eq_iff_iff]; simp
    rw [this]; exact q) hk
theorem opP_neI {i j : Int} (hk : k (.d (.bool (!decide (i = j)))) m) : OpP R K E XP ρ m rNe (.d (.int i)) (.d (.int j)) k :=
  opP_sc (v := .bl (!decide (i = j))) rfl (fun _ ra rb Q q => by
    rw [dq_int ra, dq_int rb]
    refine ⟨rfl, ?_⟩
    have : decide (V.int i = V.int j) = decide (i = j) := by rw [Bool.eq_iff_iff]; simp
    rw [this]; exact q) hk
theorem opP_eqS {i j : Str} (hk : k (.d (.bool (decide (i = j)))) m) : OpP R K E XP ρ m rEq (.d (.str i)) (.d (.str j)) k :=
  opP_sc (v := .bl (decide (i = j))) rfl (fun _ ra rb Q q => by
    rw [dq_str ra, dq_str rb]
    refine ⟨rfl, ?_⟩
    have : decide (V.str i = V.str j) = decide (i = j) := by rw [Bool.eq_iff_iff]; simp
    rw [this]; exact q) hk
theorem opP_neS {i j : Str} (hk : k (.d (.bool (!decide (i = j)))) m) : OpP R K E XP ρ m rNe (.d (.str i)) (.d (.str j)) k :=
  opP_sc (v := .bl (!decide (i = j))) rfl (fun _ ra rb Q q => by
    rw [dq_str ra, dq_str rb]
    refine ⟨rfl, ?_⟩
    have : decide (V.str i = V.str j) = decide (i = j) := by rw [Bool.eq_iff_iff]; simp
    rw [this]; exact q) hk
theorem opP_eqB {i j : Bool} (hk : k (.d (.bool (decide (i = j)))) m) : OpP R K E XP ρ m rEq (.d (.bool i)) (.d (.bool j)) k :=
  opP_sc (v := .bl (decide (i = j))) rfl (fun _ ra rb Q q => by
    rw [dq_bl ra, dq_bl rb]
    refine ⟨rfl, ?_⟩
    have : decide (V.bl i = V.bl j) = decide (i = j) := by rw [Bool.eq_iff_iff]; simp
    rw [this]; exact q) hk
theorem opP_neB {i j : Bool} (hk : k (.d (.bool (!decide (i = j)))) m) : OpP R K E XP ρ m rNe (.d (.bool i)) (.d (.bool j)) k :=
  opP_sc (v := .bl (!decide (i = j))) rfl (fun _ ra rb Q q => by
    rw [dq_bl ra, dq_bl rb]
    refine ⟨rfl, ?_⟩
    have : decide (V.bl i = V.bl j) = decide (i = j) := by rw [Bool.eq_iff_iff]; simp
    rw [this]; exact q) hk
/-- a result as data for deep comparison -/
theorem rel_dp {Hs : Hp} {F : AP} {H B : Hp} {v : V} {r : Rk} {d : PyData} (s : Same B H) (h : RelR K Hs F H B v r) (hr : r = .d d ∨ ∃ xs, d = .list xs ∧ LR r xs) : Dp K H v d := by
  rcases hr with rfl | ⟨xs, rfl, hl⟩
  · exact dp_same s _ (Dq.dp _ h)
  · cases r with
    | d x =>
      cases x with
      | list ys => obtain rfl : ys = xs := hl; exact dp_same s _ (Dq.dp _ h)
      | _ => exact hl.elim
    | o ys => obtain rfl : ys = xs := hl; obtain ⟨p, vs, rfl, h1, _, _, _, h5⟩ := h; exact .lst (sql h1) (dpa_same s _ (DqAll.dp _ h5))
    | l ys => obtain rfl : ys = xs := hl; obtain ⟨p, vs, rfl, h1, _, h5⟩ := h; exact .lst (sql h1) (dpa_same s _ (DqAll.dp _ h5))
    | v x => exact hl.elim
    | c x => exact hl.elim
def asD : Rk → Option PyData
  | .d x => some x
  | .o xs => some (.list xs)
  | .l xs => some (.list xs)
  | .v _ => none
  | .c xs => some (.tuple xs)
theorem rel_asD {Hs : Hp} {F : AP} {H B : Hp} {v : V} {r : Rk} {d : PyData} (s : Same B H) (h : RelR K Hs F H B v r) (hr : asD r = some d) : Dp K H v d := by
  cases r with
  | d x => cases hr; exact dp_same s _ (Dq.dp _ h)
  | o ys => cases hr; exact rel_dp s h (.inr ⟨ys, rfl, rfl⟩)
  | l ys => cases hr; exact rel_dp s h (.inr ⟨ys, rfl, rfl⟩)
  | v x => cases hr
  | c ys => cases hr; obtain ⟨p, vs, rfl, h1, h2, rfl⟩ := h; exact .tup (h1 H) (DqAll.dp _ (dqa_sc h2))
theorem opP_eqD {a b : Rk} {d e : PyData} (ha : asD a = some d) (hb : asD b = some e) (h1 : SeqAt.shaped d = true) (h2 : SeqAt.shaped e = true) (hk : k (.d (.bool (PyData.eqv d e))) m) : OpP R K E XP ρ m (rEqD K) a b k :=
  opP_sc (v := .bl (PyData.eqv d e)) rfl (fun s ra rb Q q => ⟨d, e, rel_asD s ra ha, rel_asD s rb hb, h1, h2, q⟩) hk
theorem opP_neD {a b : Rk} {d e : PyData} (ha : asD a = some d) (hb : asD b = some e) (h1 : SeqAt.shaped d = true) (h2 : SeqAt.shaped e = true) (hk : k (.d (.bool (!PyData.eqv d e))) m) : OpP R K E XP ρ m (rNeD K) a b k :=
  opP_sc (v := .bl (!PyData.eqv d e)) rfl (fun s ra rb Q q => ⟨d, e, rel_asD s ra ha, rel_asD s rb hb, h1, h2, q⟩) hk
theorem opP_inD {a b : Rk} {d : PyData} {ds : List PyData} (ha : asD a = some d) (hb : asD b = some (.list ds)) (h1 : SeqAt.shaped d = true) (h2 : SeqAt.shaped (.list ds) = true) (hk : k (.d (.bool (ds.any fun z => PyData.eqv z d))) m) : OpP R K E XP ρ m (rInD K) a b k :=
  opP_sc (v := .bl _) rfl (fun s ra rb Q q => ⟨d, ds, rel_asD s ra ha, rel_asD s rb hb, h1, h2, q⟩) hk
theorem opP_notInD {a b : Rk} {d : PyData} {ds : List PyData} (ha : asD a = some d) (hb : asD b = some (.list ds)) (h1 : SeqAt.shaped d = true) (h2 : SeqAt.shaped (.list ds) = true) (hk : k (.d (.bool (!ds.any fun z => PyData.eqv z d))) m) : OpP R K E XP ρ m (rNotInD K) a b k :=
  opP_sc (v := .bl _) rfl (fun s ra rb Q q => ⟨d, ds, rel_asD s ra ha, rel_asD s rb hb, h1, h2, q⟩) hk
theorem opP_isN {a : Rk} {d : PyData} (ha : asD a = some d) (hk : k (.d (.bool (isNoneD d))) m) : OpP R K E XP ρ m rIsN a (.d .none) k :=
  opP_sc (v := .bl (isNoneD d)) rfl (fun s ra rb Q q => by
    refine ⟨dq_non rb, ?_⟩
    rename_i Hs F H B x y
    have : decide (x = .non) = isNoneD d := by
      have h := rel_asD s ra ha
      cases h <;> rfl
    rw [this]; exact q) hk
theorem opP_notN {a : Rk} {d : PyData} (ha : asD a = some d) (hk : k (.d (.bool (!isNoneD d))) m) : OpP R K E XP ρ m rNotN a (.d .none) k :=
  opP_sc (v := .bl (!isNoneD d)) rfl (fun s ra rb Q q => by
    refine ⟨dq_non rb, ?_⟩
    rename_i Hs F H B x y
    have : decide (x = .non) = isNoneD d := by
      have h := rel_asD s ra ha
      cases h <;> rfl
    rw [this]; exact q) hk
theorem opP_addS {i j : Str} (hl : i.length + j.length ≤ sizeLine) (hk : k (.d (.str (i ++ j))) m) : OpP R K E XP ρ m rAddS (.d (.str i)) (.d (.str j)) k :=
  opP_sc (v := .str (i ++ j)) rfl (fun _ ra rb Q q => ⟨i, j, dq_str ra, dq_str rb, hl, q⟩) hk
theorem opP_ltS {i j : Str} (hk : k (.d (.bool (decide (i.cps.toList < j.cps.toList)))) m) : OpP R K E XP ρ m rLtS (.d (.str i)) (.d (.str j)) k :=
  opP_sc (v := .bl _) rfl (fun _ ra rb Q q => ⟨i, j, dq_str ra, dq_str rb, q⟩) hk
theorem opP_inSign {c : Nat} {z : Str} (hk : k (.d (.bool (decide (c ∈ z.cps.toList)))) m) : OpP R K E XP ρ m rInS (.d (.str ⟨#[c]⟩)) (.d (.str z)) k :=
  opP_sc (v := .bl _) rfl (fun _ ra rb Q q => ⟨c, z, dq_str ra, dq_str rb, q⟩) hk
theorem dqa_atI {K : PySem.W.Frag} {H : Hp} {vs : List V} {ds : List PyData} {i : Int} {d : PyData} (h : DqAll K H vs ds) (e : atI ds i = some d) : ∃ v, atI vs i = some v ∧ Dq K H v d := by
  unfold atI at e ⊢
  rw [dqa_len h]
  cases hi : ixN ds.length i with
  | none => rw [hi] at e; cases e
  | some j => rw [hi] at e; exact dqa_at h e
theorem opP_ixT {ds : List PyData} {i : Int} {d : PyData} (h : atI ds i = some d) (hk : k (.d d) m) : OpP R K E XP ρ m (rIxT K) (.d (.tuple ds)) (.d (.int i)) k := by with_unfolding_all exact (fun D ra rb Q q => by
  obtain ⟨p, vs, rfl, h1, h2⟩ := dq_tup ra
  cases dq_int rb
  obtain ⟨v, hv, hd⟩ := dqa_atI h2 h
  exact ⟨p, vs, i, v, rfl, rfl, sqt_same D.st.s h1, hv, q v _ m _ _ _ hk D (.refl D.st.s) hd⟩)
theorem rel_lst {Hs : Hp} {F : AP} {H B : Hp} {v : V} {r : Rk} {xs : List PyData} (s : Same B H) (h : RelR K Hs F H B v r) (hr : LR r xs) : ∃ p vs, v = .ref p ∧ H p = some (.lst vs) ∧ DqAll K B vs xs := by
  cases r with
  | d x =>
    cases x with
    | list ys => obtain rfl : ys = xs := hr; obtain ⟨p, vs, rfl, h1, h2⟩ := dq_lst h; exact ⟨p, vs, rfl, s _ _ h1, h2⟩
    | _ => exact hr.elim
  | o ys => obtain rfl : ys = xs := hr; obtain ⟨p, vs, rfl, h1, _, _, _, h5⟩ := h; exact ⟨p, vs, rfl, h1, h5⟩
  | l ys => obtain rfl : ys = xs := hr; obtain ⟨p, vs, rfl, h1, _, h5⟩ := h; exact ⟨p, vs, rfl, h1, h5⟩
  | v x => exact hr.elim
  | c x => exact hr.elim
theorem opP_ixL {a : Rk} {ds : List PyData} {i : Int} {d : PyData} (ha : LR a ds) (h : atI ds i = some d) (hk : k (.d d) m) : OpP R K E XP ρ m (rIxL K) a (.d (.int i)) k := by with_unfolding_all exact (fun D ra rb Q q => by
  obtain ⟨p, vs, rfl, h1, h2⟩ := rel_lst D.st.s ra ha
  cases dq_int rb
  obtain ⟨v, hv, hd⟩ := dqa_atI h2 h
  exact ⟨p, vs, i, v, rfl, rfl, sql h1, hv, q v _ m _ _ _ hk D (.refl D.st.s) hd⟩)
theorem opP_ixS {z : Str} {i : Int} {c : Nat} (hl : z.length ≤ sizeLine) (h : atI z.cps.toList i = some c) (hk : k (.d (.str ⟨#[c]⟩)) m) : OpP R K E XP ρ m rIxS (.d (.str z)) (.d (.int i)) k :=
  opP_sc (v := .str ⟨#[c]⟩) rfl (fun _ ra rb Q q => ⟨z, i, c, dq_str ra, dq_int rb, hl, h, q⟩) hk
/-- a new thing of data -/
theorem newD {F0 F : AP} {H0 B0 H B : Hp} {σ : L2.St} (D : DS R K E XP F0 H0 B0 F H B σ ρ m) {p : Addr} {vs : List V} {ds : List PyData} (hp : H p = none) (hd : DqAll K B vs ds) {Q : VK} (hk : k (.d (.tuple ds)) m)
    (q : ∀ v c m' F' H' B', k c m' → DS R K E XP F0 H0 B0 F' H' B' σ ρ m' → Stq F H B F' H' B' → RelR K H F' H' B' v c → Q v H') : Q (.ref p) (upd H p (.tup vs)) :=
  q _ _ m _ _ _ hk (D.newD hp) (.newD D.st.s hp) (.tup upd_same (dqa_same (same_upd (b_none D.st.s hp)) _ hd))
theorem newL {F0 F : AP} {H0 B0 H B : Hp} {σ : L2.St} (D : DS R K E XP F0 H0 B0 F H B σ ρ m) {p : Addr} {vs : List V} {ds : List PyData} (hp : H p = none) (hd : DqAll K B vs ds) {Q : VK} (hk : k (.o ds) m)
    (q : ∀ v c m' F' H' B', k c m' → DS R K E XP F0 H0 B0 F' H' B' σ ρ m' → Stq F H B F' H' B' → RelR K H F' H' B' v c → Q v H') : Q (.ref p) (upd H p (.lst vs)) :=
  q _ _ m _ _ _ hk (D.newO hp) (.newO D.st.s hp) ⟨p, vs, rfl, upd_same, b_none D.st.s hp, D.nF hp, hp, hd⟩
theorem opP_catT {xs ys : List PyData} (hl : xs.length + ys.length ≤ 90000) (hk : k (.d (.tuple (xs ++ ys))) m) : OpP R K E XP ρ m (rCatA K) (.d (.tuple xs)) (.d (.tuple ys)) k := by with_unfolding_all exact (fun D ra rb Q q => by
  obtain ⟨p, vs, rfl, h1, h2⟩ := dq_tup ra
  obtain ⟨p', ws, rfl, h3, h4⟩ := dq_tup rb
  have l1 := dqa_len h2
  have l2 := dqa_len h4
  refine ⟨p, p', vs, ws, rfl, rfl, sqt_same D.st.s h1, sqt_same D.st.s h3, sz (by omega), fun e => ?_, fun _ e => ?_, fun _ _ p hp => newD D hp (dqa_app h2 h4) hk q⟩
  · have : xs = [] := by rw [e] at l1; exact List.length_eq_zero_iff.mp l1.symm
    rw [this] at hk
    exact q _ _ m _ _ _ hk D (.refl D.st.s) rb
  · have : ys = [] := by rw [e] at l2; exact List.length_eq_zero_iff.mp l2.symm
    rw [this, List.append_nil] at hk
    exact q _ _ m _ _ _ hk D (.refl D.st.s) ra)
theorem opP_cat {a b : Rk} {xs ys : List PyData} (ha : LR a xs) (hb : LR b ys) (hl : xs.length + ys.length ≤ 90000) (hk : k (.o (xs ++ ys)) m) : OpP R K E XP ρ m rCat a b k := by with_unfolding_all exact (fun D ra rb Q q => by
  obtain ⟨p, vs, rfl, h1, h2⟩ := rel_lst D.st.s ra ha
  obtain ⟨p', ws, rfl, h3, h4⟩ := rel_lst D.st.s rb hb
  have l1 := dqa_len h2
  have l2 := dqa_len h4
  exact ⟨p, p', vs, ws, rfl, rfl, h1, h3, sz (by omega), fun p hp => newL D hp (dqa_app h2 h4) hk q⟩)
/-! displays -/
def DL : List Rk → Option (List PyData)
  | [] => some []
  | .d x :: rs => (DL rs).map (x :: ·)
  | _ :: _ => none
theorem rel_all {Hs : Hp} {F : AP} {H B : Hp} : ∀ {vs : List V} {rs : List Rk} {ds : List PyData}, RelA K Hs F H B vs rs → DL rs = some ds → DqAll K B vs ds
  | [], [], _, _, e => by cases e; exact .nil
  | v :: vs, r :: rs, ds, h, e => by
    cases r with
    | d x =>
      unfold DL at e
      cases hr : DL rs with
      | none => rw [hr] at e; cases e
      | some es => rw [hr] at e; cases e; exact .cons h.1 (rel_all h.2 hr)
    | o _ => cases e
    | l _ => cases e
    | v _ => cases e
    | c _ => cases e
  | [], _ :: _, _, h, _ => h.elim
  | _ :: _, [], _, h, _ => h.elim
theorem we_tup {tr : TA} (h : WA R K E XP ρ m tr fun rs m1 => ∃ ds, DL rs = some ds ∧ ds.length ≤ 90000 ∧ k (.d (.tuple ds)) m1) : WE R K E XP ρ m (tTup tr) k := by with_unfolding_all exact (fun D Q q =>
  h D _ fun vs rs m1 F1 H1 B1 ⟨ds, e, hl, k1⟩ D1 q1 r1 => by
    have hd := rel_all r1 e
    exact ⟨sz (by rw [dqa_len hd]; omega), fun p hp => newD D1 hp hd k1 fun v c m' F' H' B' k3 D3 q3 r3 => q v c m' F' H' B' k3 D3 (q1.trans q3) (r3.base fun x hx => q1.e x hx)⟩)
theorem we_lst {tr : TA} (h : WA R K E XP ρ m tr fun rs m1 => ∃ ds, DL rs = some ds ∧ ds.length ≤ 90000 ∧ k (.o ds) m1) : WE R K E XP ρ m (tLst tr) k := by with_unfolding_all exact (fun D Q q =>
  h D _ fun vs rs m1 F1 H1 B1 ⟨ds, e, hl, k1⟩ D1 q1 r1 => by
    have hd := rel_all r1 e
    exact ⟨sz (by rw [dqa_len hd]; omega), fun p hp => newL D1 hp hd k1 fun v c m' F' H' B' k3 D3 q3 r3 => q v c m' F' H' B' k3 D3 (q1.trans q3) (r3.base fun x hx => q1.e x hx)⟩)
/-! calls of built-ins -/
theorem cbP_sc {r : List V → Hp → VK → Prop} {rs : List Rk} {v : V} (hv : isSc v = true) (h : ∀ {Hs F H B vs}, Same B H → RelA K Hs F H B vs rs → ∀ Q : VK, Q v H → r vs H Q) (hk : k (.d (sc v)) m) : CbP R K E XP ρ m r rs k := by with_unfolding_all exact (fun D ra Q q =>
  h D.st.s ra Q (q _ _ m _ _ _ hk D (.refl D.st.s) (dq_sc hv)))
theorem relA1 {Hs : Hp} {F : AP} {H B : Hp} {vs : List V} {r : Rk} (h : RelA K Hs F H B vs [r]) : ∃ v, vs = [v] ∧ RelR K Hs F H B v r := by
  match vs, h with
  | [v], h => exact ⟨v, rfl, h.1⟩
theorem relA2 {Hs : Hp} {F : AP} {H B : Hp} {vs : List V} {r s : Rk} (h : RelA K Hs F H B vs [r, s]) : ∃ v w, vs = [v, w] ∧ RelR K Hs F H B v r ∧ RelR K Hs F H B w s := by
  match vs, h with
  | [v, w], h => exact ⟨v, w, rfl, h.1, h.2.1⟩
theorem cbP_lenL {a : Rk} {ds : List PyData} (ha : LR a ds) (hk : k (.d (.int (ds.length : Int))) m) : CbP R K E XP ρ m (rLen K) [a] k :=
  cbP_sc (v := .int (ds.length : Int)) rfl (fun s ra Q q => by
    obtain ⟨v, rfl, r1⟩ := relA1 ra
    obtain ⟨p, vs, rfl, h1, h2⟩ := rel_lst s r1 ha
    exact ⟨p, vs, rfl, .inl (sql h1), by rw [dqa_len h2]; exact q⟩) hk
theorem cbP_lenT {ds : List PyData} (hk : k (.d (.int (ds.length : Int))) m) : CbP R K E XP ρ m (rLen K) [.d (.tuple ds)] k :=
  cbP_sc (v := .int (ds.length : Int)) rfl (fun s ra Q q => by
    obtain ⟨v, rfl, r1⟩ := relA1 ra
    obtain ⟨p, vs, rfl, h1, h2⟩ := dq_tup r1
    exact ⟨p, vs, rfl, .inr (sqt_same s h1), by rw [dqa_len h2]; exact q⟩) hk
theorem cbP_lenS {z : Str} (hl : z.length ≤ sizeLine) (hk : k (.d (.int (z.length : Int))) m) : CbP R K E XP ρ m rLenS [.d (.str z)] k :=
  cbP_sc (v := .int (z.length : Int)) rfl (fun s ra Q q => by
    obtain ⟨v, rfl, r1⟩ := relA1 ra
    cases dq_str r1
    exact ⟨z, rfl, hl, q⟩) hk
theorem cbP_isi {a : Rk} {d : PyData} {t : String} (ha : asD a = some d) (ht : t ∈ (["bool", "int", "str", "tuple", "list"] : List String)) (hk : k (.d (.bool (isKD (kindD d) t))) m) : CbP R K E XP ρ m (rIsi K) [a, .v (.ty t)] k :=
  cbP_sc (v := .bl (isKD (kindD d) t)) rfl (fun s ra Q q => by
    obtain ⟨v, w, rfl, r1, r2⟩ := relA2 ra
    cases (show w = .ty t from r2)
    have h := rel_asD s r1 ha
    have hk' := kindD_dp h
    have ht' := dp_tyxD h
    exact ⟨v, .ty t, .type (kindD d), .type t, _, rfl, .ty _, ht', kit_ty (kitKD _ hk' _ ht), q⟩) hk
theorem cbP_int {i : Int} (hk : k (.d (.int i)) m) : CbP R K E XP ρ m rInt1 [.d (.int i)] k :=
  cbP_sc (v := .int i) rfl (fun s ra Q q => by
    obtain ⟨v, rfl, r1⟩ := relA1 ra
    exact .inl ⟨i, by rw [dq_int r1], q⟩) hk
theorem cbP_intB {b : Bool} (hk : k (.d (.int (if b then 1 else 0))) m) : CbP R K E XP ρ m rInt1 [.d (.bool b)] k :=
  cbP_sc (v := .int (if b then 1 else 0)) rfl (fun s ra Q q => by
    obtain ⟨v, rfl, r1⟩ := relA1 ra
    exact .inr ⟨b, by rw [dq_bl r1], q⟩) hk
theorem cbP_strI {i : Int} (hl : i.natAbs.log2 < 1920) (hk : k (.d (.str (toString i))) m) : CbP R K E XP ρ m rStrI [.d (.int i)] k :=
  cbP_sc (v := .str (toString i)) rfl (fun s ra Q q => by
    obtain ⟨v, rfl, r1⟩ := relA1 ra
    exact ⟨i, by rw [dq_int r1], hl, q⟩) hk
theorem cbP_listL {a : Rk} {ds : List PyData} (ha : LR a ds) (hk : k (.o ds) m) : CbP R K E XP ρ m (rLst K) [a] k := by with_unfolding_all exact (fun D ra Q q => by
  obtain ⟨v, rfl, r1⟩ := relA1 ra
  obtain ⟨p, vs, rfl, h1, h2⟩ := rel_lst D.st.s r1 ha
  exact ⟨p, vs, rfl, .inl (sql h1), fun l hl => newL D hl h2 hk q⟩)
theorem cbP_listT {ds : List PyData} (hk : k (.o ds) m) : CbP R K E XP ρ m (rLst K) [.d (.tuple ds)] k := by with_unfolding_all exact (fun D ra Q q => by
  obtain ⟨v, rfl, r1⟩ := relA1 ra
  obtain ⟨p, vs, rfl, h1, h2⟩ := dq_tup r1
  exact ⟨p, vs, rfl, .inr (sqt_same D.st.s h1), fun l hl => newL D hl h2 hk q⟩)
theorem cbP_tupL {a : Rk} {ds : List PyData} (ha : LR a ds) (hk : k (.d (.tuple ds)) m) : CbP R K E XP ρ m (rTup K) [a] k := by with_unfolding_all exact (fun D ra Q q => by
  obtain ⟨v, rfl, r1⟩ := relA1 ra
  obtain ⟨p, vs, rfl, h1, h2⟩ := rel_lst D.st.s r1 ha
  exact ⟨p, vs, rfl, .inl ⟨sql h1, fun l hl => newD D hl h2 hk q⟩⟩)
theorem cbP_tupT {ds : List PyData} (hk : k (.d (.tuple ds)) m) : CbP R K E XP ρ m (rTup K) [.d (.tuple ds)] k := by with_unfolding_all exact (fun D ra Q q => by
  obtain ⟨v, rfl, r1⟩ := relA1 ra
  have r1' := r1
  obtain ⟨p, vs, rfl, h1, h2⟩ := dq_tup r1
  exact ⟨p, vs, rfl, .inr ⟨sqt_same D.st.s h1, q _ _ m _ _ _ hk D (.refl D.st.s) r1'⟩⟩)
/-! slices -/
@[irreducible] def WO (R : MR M) (K : PySem.W.Frag) (E : XK) (XP : Addr → M → Prop) (ρ : List Sl) (m : M) (to : TO) (k : Option Int → M → Prop) : Prop := ∀ {F0 H0 B0 F H B σ}, DS R K E XP F0 H0 B0 F H B σ ρ m → ∀ Q : Option Int → Hp → Prop, (∀ b m' F' H' B', k b m' → DS R K E XP F0 H0 B0 F' H' B' σ ρ m' → Stq F H B F' H' B' → Q b H') → to σ H Q
theorem wo_none {k : Option Int → M → Prop} (hk : k none m) : WO R K E XP ρ m tNoPart k := by with_unfolding_all exact (fun D Q q => q none m _ _ _ hk D (.refl D.st.s))
theorem wo_part {k : Option Int → M → Prop} (h : WE R K E XP ρ m te fun r m1 => ∃ i, r = .d (.int i) ∧ k (some i) m1) : WO R K E XP ρ m (tPart te) k := by with_unfolding_all exact (fun D Q q =>
  h D _ fun v r m1 F1 H1 B1 ⟨i, e, k1⟩ D1 q1 r1 => by subst e; exact ⟨i, dq_int r1, q _ m1 _ _ _ k1 D1 q1⟩)
@[irreducible] def SlP (R : MR M) (K : PySem.W.Frag) (E : XK) (XP : Addr → M → Prop) (ρ : List Sl) (m : M) (r : V → Option Int → Option Int → Hp → VK → Prop) (a : Rk) (lo hi : Option Int) (k : Rk → M → Prop) : Prop := ∀ {F0 H0 B0 F H B σ Hs x}, DS R K E XP F0 H0 B0 F H B σ ρ m → RelR K Hs F H B x a → ∀ Q : VK, (∀ v c m' F' H' B', k c m' → DS R K E XP F0 H0 B0 F' H' B' σ ρ m' → Stq F H B F' H' B' → RelR K H F' H' B' v c → Q v H') → r x lo hi H Q
theorem we_sl {r : V → Option Int → Option Int → Hp → VK → Prop} {tl th : TO} (h : WE R K E XP ρ m te fun a m1 => WO R K E XP ρ m1 tl fun lo m2 => WO R K E XP ρ m2 th fun hi m3 => SlP R K E XP ρ m3 r a lo hi k) : WE R K E XP ρ m (tSl r te tl th) k := by with_unfolding_all exact (fun D Q q =>
  h D _ fun v a m1 F1 H1 B1 k1 D1 q1 r1 => k1 D1 _ fun lo m2 F2 H2 B2 k2 D2 q2 => k2 D2 _ fun hi m3 F3 H3 B3 k3 D3 q3 => k3 D3 ((r1.step q2).step q3) _ fun v c m' F' H' B' k4 D4 q4 r4 => q v c m' F' H' B' k4 D4 (((q1.trans q2).trans q3).trans q4) (r4.base fun x hx => q3.e x (q2.e x (q1.e x hx))))
/-- a cut of data -/
def cutD (xs : List PyData) (lo hi : Option Int) : List PyData := (xs.drop (HT.sIx xs.length 0 lo)).take (HT.sIx xs.length xs.length hi - HT.sIx xs.length 0 lo)
theorem cutD_all {B : Hp} {vs : List V} {xs : List PyData} (h : DqAll K B vs xs) (lo hi : Option Int) : DqAll K B (cutV vs lo hi) (cutD xs lo hi) := by
  unfold cutV cutD
  rw [dqa_len h]
  exact dqa_take _ (dqa_drop _ h)
theorem slP_L {a : Rk} {xs : List PyData} {lo hi : Option Int} (ha : LR a xs) (hk : k (.o (cutD xs lo hi)) m) : SlP R K E XP ρ m (rSlL K) a lo hi k := by with_unfolding_all exact (fun D ra Q q => by
  obtain ⟨p, vs, rfl, h1, h2⟩ := rel_lst D.st.s ra ha
  exact ⟨p, vs, rfl, sql h1, fun p hp => newL D hp (cutD_all h2 lo hi) hk q⟩)
theorem slP_S {z : Str} {lo hi : Option Int} (hl : z.length ≤ sizeLine) (hk : k (.d (.str (cutS z lo hi))) m) : SlP R K E XP ρ m rSlS (.d (.str z)) lo hi k := by with_unfolding_all exact (fun D ra Q q => by
  cases dq_str ra
  exact ⟨z, rfl, hl, q _ _ m _ _ _ hk D (.refl D.st.s) (.str _)⟩)
theorem slP_T {xs : List PyData} {lo hi : Option Int} (hk : k (.d (.tuple (cutD xs lo hi))) m) : SlP R K E XP ρ m (rSlA K) (.d (.tuple xs)) lo hi k := by with_unfolding_all exact (fun D ra Q q => by
  have ra' := ra
  obtain ⟨p, vs, rfl, h1, h2⟩ := dq_tup ra
  have hl := dqa_len h2
  refine ⟨p, vs, rfl, sqt_same D.st.s h1, fun e => ?_, fun _ p hp => newD D hp (cutD_all h2 lo hi) hk q⟩
  rw [hl] at e
  have : cutD xs lo hi = xs := by
    unfold cutD
    rw [e.1, e.2, List.drop_zero, Nat.sub_zero, List.take_length]
  rw [this] at hk
  exact q _ _ m _ _ _ hk D (.refl D.st.s) ra')
end
/-! ## what is new becomes data -/
def DLo : List Rk → Option (List PyData)
  | [] => some []
  | .d x :: rs => (DLo rs).map (x :: ·)
  | .o xs :: rs => (DLo rs).map (.list xs :: ·)
  | _ :: _ => none
section
variable {M : Type} {R : MR M} {K : PySem.W.Frag} {E : XK} {XP : Addr → M → Prop} {ρ : List Sl} {m : M} {F0 F : AP} {H0 B0 H B Hs : Hp} {σ : L2.St}
/-- no slot's own list is new since Hs -/
def OwnB (ρ : List Sl) (σ : L2.St) (Hs : Hp) : Prop := ∀ (i : Nat) (xs : List PyData) (p : Addr), ρ[i]? = some (.o xs) → σ[i]? = some (some (.ref p)) → Hs p ≠ none
theorem DS.own (D : DS R K E XP F0 H0 B0 F H B σ ρ m) : OwnB ρ σ H := fun i xs p h1 h2 => by
  obtain ⟨w, h3, q, vs, rfl, h4, _⟩ := D.s i _ h1
  rw [h2] at h3
  cases h3
  rw [h4]; simp
theorem OwnB.mono {Hs' : Hp} (h : OwnB ρ σ Hs) (e : ∀ x, Hs x ≠ none → Hs' x ≠ none) : OwnB ρ σ Hs' := fun i xs p h1 h2 => e p (h i xs p h1 h2)
/-- a list that is no slot's becomes data -/
theorem DS.freeze (D : DS R K E XP F0 H0 B0 F H B σ ρ m) {p : Addr} {vs : List V} (e : H p = some (.lst vs)) (hb : B p = none) (hF : ¬ F p) (h0 : H0 p = none) (hn : ∀ (i : Nat) (xs : List PyData), ρ[i]? = some (.o xs) → σ[i]? ≠ some (some (.ref p))) :
    DS R K E XP F0 H0 B0 F H (upd B p (.lst vs)) σ ρ m where
  l := D.l
  st := { b := D.st.b.trans (same_upd hb)
          s := fun x o h => by
            by_cases hx : x = p
            · subst hx; rw [upd_same] at h; rw [← h]; exact e
            · rw [upd_ne hx] at h; exact D.st.s x o h
          f := fun x h1 h2 => by rw [upd_ne (fun z => h1 (by rw [z]; exact h0))]; exact D.st.f x h1 h2
          k := D.st.k
          n := D.st.n
          e := D.st.e }
  r := R.frame D.r (fun _ _ => rfl) (same_upd hb) fun x hx => by rw [upd_ne (fun z => hF (by rw [← z]; exact hx))]; exact (R.dom D.r hx).2
  s := fun i t ht => by
    obtain ⟨w, h1, h2⟩ := D.s i t ht
    refine ⟨w, h1, ?_⟩
    cases t with
    | u => exact True.intro
    | d x => obtain ⟨v, h3, h4⟩ := h2; exact ⟨v, h3, dq_same (same_upd hb) x h4⟩
    | o xs =>
      obtain ⟨q, us, rfl, h3, h4, h5, h6, h7⟩ := h2
      refine ⟨q, us, rfl, h3, ?_, h5, h6, dqa_same (same_upd hb) _ h7⟩
      rw [upd_ne (fun z => hn i xs ht (by rw [h1, z]))]
      exact h4
    | v x => exact h2
    | l xs =>
      obtain ⟨q, us, rfl, h3, h5, h6, h7⟩ := h2
      exact ⟨q, us, rfl, h3, h5, h6, dqa_same (same_upd hb) _ h7⟩
  oo := D.oo
  x := D.x
theorem toD (D : DS R K E XP F0 H0 B0 F H B σ ρ m) (ho : OwnB ρ σ Hs) (hs : ∀ x, H0 x ≠ none → Hs x ≠ none) : ∀ {vs : List V} {rs : List Rk} {ds : List PyData}, RelA K Hs F H B vs rs → DLo rs = some ds →
    ∃ B', Same B B' ∧ DS R K E XP F0 H0 B0 F H B' σ ρ m ∧ (∀ x, Hs x ≠ none → B x = none → B' x = none) ∧ DqAll K B' vs ds
  | [], [], _, _, e => by cases e; exact ⟨B, Same.refl _, D, fun _ _ h => h, .nil⟩
  | v :: vs, r :: rs, ds, h, e => by
    obtain ⟨h1, h2⟩ := h
    cases r with
    | d x =>
      unfold DLo at e
      cases hr : DLo rs with
      | none => rw [hr] at e; cases e
      | some es =>
        rw [hr] at e; cases e
        obtain ⟨B', b1, D', f1, a1⟩ := toD D ho hs h2 hr
        exact ⟨B', b1, D', f1, .cons (dq_same b1 _ h1) a1⟩
    | o xs =>
      unfold DLo at e
      cases hr : DLo rs with
      | none => rw [hr] at e; cases e
      | some es =>
        rw [hr] at e; cases e
        obtain ⟨B', b1, D', f1, a1⟩ := toD D ho hs h2 hr
        obtain ⟨p, us, rfl, g1, g2, g3, g4, g5⟩ := h1
        cases hb : B' p with
        | some o =>
          have : o = .lst us := by have := D'.st.s _ _ hb; rw [g1] at this; exact (Option.some.inj this).symm
          subst this
          exact ⟨B', b1, D', f1, .cons (.lst hb (dqa_same b1 _ g5)) a1⟩
        | none =>
          have h0 : H0 p = none := Classical.byContradiction fun z => hs p z g4
          refine ⟨upd B' p (.lst us), b1.trans (same_upd hb), D'.freeze g1 hb g3 h0 (fun i ys z w => ho i ys p z w g4), fun x hx hx2 => ?_, .cons (.lst upd_same (dqa_same (b1.trans (same_upd hb)) _ g5)) (dqa_same (same_upd hb) _ a1)⟩
          rw [upd_ne (fun z => hx (by rw [z]; exact g4))]
          exact f1 x hx hx2
    | l _ => cases e
    | v _ => cases e
    | c _ => cases e
  | [], _ :: _, _, h, _ => h.elim
  | _ :: _, [], _, h, _ => h.elim
end
section
variable {M : Type} {R : MR M} {K : PySem.W.Frag} {E : XK} {XP : Addr → M → Prop} {ρ : List Sl} {m : M} {k : Rk → M → Prop} {ta tb tc te : TE} {tr : TA}
/-- data from what was worked out -/
theorem wa_data {k' : List PyData → M → Prop} (h : WA R K E XP ρ m tr fun rs m1 => ∃ ds, DLo rs = some ds ∧ k' ds m1) {F0 H0 B0 F H B σ} (D : DS R K E XP F0 H0 B0 F H B σ ρ m) (Q : List V → Hp → Prop)
    (q : ∀ vs ds m' F' H' B', k' ds m' → DS R K E XP F0 H0 B0 F' H' B' σ ρ m' → Stq F H B F' H' B' → DqAll K B' vs ds → Q vs H') : tr σ H Q :=
  by with_unfolding_all exact (h D _ fun vs rs m1 F1 H1 B1 ⟨ds, e, k1⟩ D1 q1 r1 => by
    obtain ⟨B', b1, D', f1, a1⟩ := toD D1 D.own (fun x hx => D.st.e x hx) r1 e
    refine q vs ds m1 F1 H1 B' k1 D' ⟨q1.b.trans b1, D'.st.s, fun x h1 h2 => f1 x h1 (q1.f x h1 h2), q1.k, q1.n, q1.e⟩ a1)
theorem we_tupo (h : WA R K E XP ρ m tr fun rs m1 => ∃ ds, DLo rs = some ds ∧ ds.length ≤ 90000 ∧ k (.d (.tuple ds)) m1) : WE R K E XP ρ m (tTup tr) k := by with_unfolding_all exact (fun D Q q =>
  wa_data h D _ fun vs ds m1 F1 H1 B1 ⟨hl, k1⟩ D1 q1 hd =>
    ⟨sz (by rw [dqa_len hd]; omega), fun p hp => newD D1 hp hd k1 fun v c m' F' H' B' k3 D3 q3 r3 => q v c m' F' H' B' k3 D3 (q1.trans q3) (r3.base fun x hx => q1.e x hx)⟩)
theorem we_lsto (h : WA R K E XP ρ m tr fun rs m1 => ∃ ds, DLo rs = some ds ∧ ds.length ≤ 90000 ∧ k (.o ds) m1) : WE R K E XP ρ m (tLst tr) k := by with_unfolding_all exact (fun D Q q =>
  wa_data h D _ fun vs ds m1 F1 H1 B1 ⟨hl, k1⟩ D1 q1 hd =>
    ⟨sz (by rw [dqa_len hd]; omega), fun p hp => newL D1 hp hd k1 fun v c m' F' H' B' k3 D3 q3 r3 => q v c m' F' H' B' k3 D3 (q1.trans q3) (r3.base fun x hx => q1.e x hx)⟩)
end
/-! ## defs of data -/
def RelP (K : PySem.W.Frag) (H0 H B : Hp) (v : V) : Rk → Prop
  | .d x => Dq K B v x
  | .o xs => ∃ p vs, v = .ref p ∧ H p = some (.lst vs) ∧ B p = none ∧ H0 p = none ∧ DqAll K B vs xs
  | _ => False
/-- a def that gets data and gives data, or a new list of data -/
def spP (K : PySem.W.Frag) (pre : List PyData → Prop) (post : List PyData → Rk → Prop) : Sp := fun vs H Q _ => ∃ ds B, DqAll K B vs ds ∧ Same B H ∧ pre ds ∧
  ∀ v r H' B', post ds r → Same H H' → Same B B' → Same B' H' → (∀ x, H x ≠ none → B x = none → B' x = none) → RelP K H H' B' v r → Q v H'
section
variable {M : Type} {R : MR M} {K : PySem.W.Frag} {E : XK} {XP : Addr → M → Prop} {ρ : List Sl} {m : M} {k : Rk → M → Prop} {ta tb tc te : TE} {tr : TA}
theorem we_callP {pre : List PyData → Prop} {post : List PyData → Rk → Prop} {dvs : List V} {E' : XK} (h : WA R K E XP ρ m tr fun rs m1 => ∃ ds, DLo rs = some ds ∧ pre (ds ++ dvs.map sc) ∧ ∀ r, post (ds ++ dvs.map sc) r → k r m1) (hdv : dvs.all isSc = true := by rfl) : WE R K E XP ρ m (tCall (spP K pre post) dvs E' tr) k := by with_unfolding_all exact (fun D Q q =>
  wa_data h D _ fun vs ds m1 F1 H1 B1 ⟨hp, hk⟩ D1 q1 hd => by
    refine ⟨ds ++ dvs.map sc, B1, dqa_app hd (dqa_sc hdv), D1.st.s, hp, fun v r H' B' hr s1 b1 t1 f1 rel => ?_⟩
    have D2 := D1.pure s1 b1 t1 f1
    have q2 := q1.trans (Stq.pure (F := F1) s1 b1 t1 f1)
    refine q v r m1 F1 H' B' (hk r hr) D2 q2 ?_
    cases r with
    | d x => exact rel
    | o xs =>
      obtain ⟨p, us, rfl, g1, g2, g3, g4⟩ := rel
      exact ⟨p, us, rfl, g1, g2, D1.nF g3, Classical.byContradiction fun z => q1.e p z g3, g4⟩
    | l _ => exact rel.elim
    | v _ => exact rel.elim
    | c _ => exact rel.elim)
end
/-! ## statements -/
def slOf : Rk → Sl
  | .d x => .d x
  | .o xs => .o xs
  | .l _ => .u
  | .c _ => .u
  | .v x => .v x
/-- the same slots, some forgotten -/
def Wk : List Sl → List Sl → Prop
  | [], [] => True
  | a :: as, b :: bs => (a = b ∨ b = .u) ∧ Wk as bs
  | _, _ => False
theorem Wk.refl : ∀ ρ : List Sl, Wk ρ ρ
  | [] => True.intro
  | _ :: ρ => ⟨.inl rfl, Wk.refl ρ⟩
theorem Wk.len : ∀ {ρ ρ' : List Sl}, Wk ρ ρ' → ρ'.length = ρ.length
  | [], [], _ => rfl
  | _ :: _, _ :: _, h => by rw [List.length_cons, List.length_cons, Wk.len h.2]
  | [], _ :: _, h => h.elim
  | _ :: _, [], h => h.elim
theorem Wk.at : ∀ {ρ ρ' : List Sl} {i : Nat} {t : Sl}, Wk ρ ρ' → ρ'[i]? = some t → t = .u ∨ ρ[i]? = some t
  | [], [], i, t, _, h => by simp at h
  | a :: as, b :: bs, 0, t, w, h => by
    have e : b = t := by simpa using h
    subst e
    rcases w.1 with z | z
    · exact .inr (by rw [z]; rfl)
    · exact .inl z
  | a :: as, b :: bs, i + 1, t, w, h => by
    have h' : bs[i]? = some t := by simpa using h
    rcases Wk.at w.2 h' with z | z
    · exact .inl z
    · exact .inr (by simpa using z)
  | [], _ :: _, _, _, h, _ => h.elim
  | _ :: _, [], _, _, h, _ => h.elim
section
variable {M : Type} (R : MR M) (K : PySem.W.Frag) (E : XK) (XP : Addr → M → Prop)
@[irreducible] def WS (ρ : List Sl) (m : M) (ts : TS) (nx : List Sl → M → Prop) (rt : Rk → M → Prop) (bk ct : List Sl → M → Prop) : Prop := ∀ {F0 H0 B0 F H B σ} (D : Ends), DS R K E XP F0 H0 B0 F H B σ ρ m →
  (∀ {σ' ρ' m' F' H' B'}, nx ρ' m' → DS R K E XP F0 H0 B0 F' H' B' σ' ρ' m' → Same B B' → D.nx σ' H') →
  (∀ {v r m' F' H' B'}, rt r m' → Stq F0 H0 B0 F' H' B' → R.rel m' F' H' B' → RelR K H0 F' H' B' v r → D.rt v H') →
  (∀ {σ' ρ' m' F' H' B'}, bk ρ' m' → DS R K E XP F0 H0 B0 F' H' B' σ' ρ' m' → Same B B' → D.bk σ' H') →
  (∀ {σ' ρ' m' F' H' B'}, ct ρ' m' → DS R K E XP F0 H0 B0 F' H' B' σ' ρ' m' → Same B B' → D.ct σ' H') → ts D σ H
/-- a target that gets data -/
@[irreducible] def WG (ρ : List Sl) (m : M) (g : TG) (d : PyData) (k : List Sl → Prop) : Prop := ∀ {F0 H0 B0 F H B σ v}, DS R K E XP F0 H0 B0 F H B σ ρ m → Dq K B v d → ∀ Q : L2.St → Hp → Prop,
  (∀ σ' ρ', k ρ' → DS R K E XP F0 H0 B0 F H B σ' ρ' m → Q σ' H) → g v σ H Q
@[irreducible] def WGs (ρ : List Sl) (m : M) (g : TGs) (ds : List PyData) (k : List Sl → Prop) : Prop := ∀ {F0 H0 B0 F H B σ vs}, DS R K E XP F0 H0 B0 F H B σ ρ m → DqAll K B vs ds → ∀ Q : L2.St → Hp → Prop,
  (∀ σ' ρ', k ρ' → DS R K E XP F0 H0 B0 F H B σ' ρ' m → Q σ' H) → g vs σ H Q
end
theorem wipe_in {j : Nat} {τ : L2.St} : ∀ {vs : List Nat}, j ∈ vs → (wipe τ vs)[j]? = if j < τ.length then some none else none
  | [], h => by cases h
  | a :: vs, h => by
    show ((wipe τ vs).set a none)[j]? = _
    by_cases ha : j = a
    · subst ha
      by_cases hl : j < τ.length
      · rw [List.getElem?_set_self (by rw [wipe_length]; exact hl), if_pos hl]
      · rw [if_neg hl, List.getElem?_eq_none (by rw [List.length_set, wipe_length]; omega)]
    · rw [List.getElem?_set_ne (fun z => ha z.symm)]
      exact wipe_in ((List.mem_cons.mp h).resolve_left ha)
theorem wipe_set {i : Nat} {w : Option V} {σ : L2.St} {vs : List Nat} (h : i ∈ vs) : wipe (σ.set i w) vs = wipe σ vs := by
  refine List.ext_getElem? fun j => ?_
  by_cases hj : j ∈ vs
  · rw [wipe_in hj, wipe_in hj, List.length_set]
  · rw [wipe_out hj, wipe_out hj, List.getElem?_set_ne (fun z => hj (by rw [← z]; exact h))]
section
variable {M : Type} {R : MR M} {K : PySem.W.Frag} {E : XK} {XP : Addr → M → Prop} {ρ : List Sl} {m : M} {F0 F : AP} {H0 B0 H B Hs : Hp} {σ : L2.St}
theorem DS.wk (D : DS R K E XP F0 H0 B0 F H B σ ρ m) {ρ' : List Sl} (w : Wk ρ ρ') : DS R K E XP F0 H0 B0 F H B σ ρ' m where
  l := by rw [w.len]; exact D.l
  st := D.st
  r := D.r
  s := fun i t ht => by
    rcases w.at ht with rfl | h
    · have hi : i < σ.length := by rw [D.l, ← w.len]; exact (List.getElem?_eq_some_iff.mp ht).1
      exact ⟨_, List.getElem?_eq_getElem hi, True.intro⟩
    · exact D.s i t h
  oo := fun i j p xs ys h1 h2 => D.oo i j p xs ys ((w.at h1).resolve_left (by intro z; cases z)) ((w.at h2).resolve_left (by intro z; cases z))
  x := D.x
/-- a slot gets data or what is known of it -/
theorem DS.setW (D : DS R K E XP F0 H0 B0 F H B σ ρ m) (i : Nat) {w : Option V} {t : Sl} (hw : SlD K H0 F H B w t) (ht : ∀ xs p, t = .o xs → w = some (.ref p) → ∀ (j : Nat) (ys : List PyData), ρ[j]? = some (.o ys) → j ≠ i → σ[j]? ≠ some (some (.ref p))) :
    DS R K E XP F0 H0 B0 F H B (σ.set i w) (ρ.set i t) m where
  l := by rw [List.length_set, List.length_set]; exact D.l
  st := D.st
  r := D.r
  s := fun j u hu => by
    by_cases hj : i = j
    · subst hj
      have hl : i < ρ.length := by have := (List.getElem?_eq_some_iff.mp hu).1; rw [List.length_set] at this; exact this
      rw [List.getElem?_set_self hl] at hu
      cases hu
      exact ⟨w, List.getElem?_set_self (by rw [D.l]; exact hl), hw⟩
    · rw [List.getElem?_set_ne hj] at hu
      obtain ⟨x, h1, h2⟩ := D.s j u hu
      exact ⟨x, by rw [List.getElem?_set_ne hj]; exact h1, h2⟩
  oo := fun a b p xs ys h1 h2 h3 h4 => by
    by_cases ha : i = a
    · by_cases hb : i = b
      · rw [← ha, ← hb]
      · exfalso
        subst ha
        have hl : i < ρ.length := by have := (List.getElem?_eq_some_iff.mp h1).1; rw [List.length_set] at this; exact this
        rw [List.getElem?_set_self hl] at h1
        rw [List.getElem?_set_self (by rw [D.l]; exact hl)] at h3
        rw [List.getElem?_set_ne hb] at h2 h4
        exact ht xs p (Option.some.inj h1) (Option.some.inj h3) b ys h2 (fun z => hb z.symm) h4
    · by_cases hb : i = b
      · exfalso
        subst hb
        have hl : i < ρ.length := by have := (List.getElem?_eq_some_iff.mp h2).1; rw [List.length_set] at this; exact this
        rw [List.getElem?_set_self hl] at h2
        rw [List.getElem?_set_self (by rw [D.l]; exact hl)] at h4
        rw [List.getElem?_set_ne ha] at h1 h3
        exact ht ys p (Option.some.inj h2) (Option.some.inj h4) a xs h1 (fun z => ha z.symm) h3
      · rw [List.getElem?_set_ne ha] at h1 h3
        rw [List.getElem?_set_ne hb] at h2 h4
        exact D.oo a b p xs ys h1 h2 h3 h4
  x := D.x
theorem DS.setD (D : DS R K E XP F0 H0 B0 F H B σ ρ m) (i : Nat) {v : V} {d : PyData} (h : Dq K B v d) : DS R K E XP F0 H0 B0 F H B (σ.set i (some v)) (ρ.set i (.d d)) m :=
  D.setW i ⟨v, rfl, h⟩ fun _ _ e => by cases e
theorem DS.setR (D : DS R K E XP F0 H0 B0 F H B σ ρ m) (i : Nat) {v : V} {r : Rk} (h : RelR K Hs F H B v r) (ho : OwnB ρ σ Hs) (hs : ∀ x, H0 x ≠ none → Hs x ≠ none) : DS R K E XP F0 H0 B0 F H B (σ.set i (some v)) (ρ.set i (slOf r)) m := by
  cases r with
  | d x => exact D.setD i h
  | o xs =>
    obtain ⟨p, us, rfl, g1, g2, g3, g4, g5⟩ := h
    have h0 : H0 p = none := Classical.byContradiction fun z => hs p z g4
    refine D.setW i ⟨p, us, rfl, g1, g2, g3, h0, g5⟩ fun ys q _ hq j zs hj _ hz => ?_
    cases hq
    exact ho j zs p hj hz g4
  | l xs => exact D.setW i True.intro fun _ _ e => by cases e
  | v x => exact D.setW i (show some v = some x by rw [show v = x from h]) fun _ _ e => by cases e
  | c x => exact D.setW i True.intro fun _ _ e => by cases e
/-- a slot's own list changes -/
theorem DS.putO (D : DS R K E XP F0 H0 B0 F H B σ ρ m) {i : Nat} {p : Addr} {xs ys : List PyData} {vs : List V} (hi : ρ[i]? = some (.o xs)) (hp : σ[i]? = some (some (.ref p))) (hv : DqAll K B vs ys) : DS R K E XP F0 H0 B0 F (upd H p (.lst vs)) B σ (ρ.set i (.o ys)) m := by
  obtain ⟨w, h1, q, us, e, h2, h3, h4, h5, h6⟩ := D.s i _ hi
  rw [hp] at h1
  cases h1
  cases e
  have hl : i < ρ.length := (List.getElem?_eq_some_iff.mp hi).1
  refine ⟨by rw [List.length_set]; exact D.l, D.st.put h5 h3, R.frame D.r (fun x hx => upd_ne fun z => h4 (by rw [← z]; exact hx)) (Same.refl _) (fun x hx => (R.dom D.r hx).2), fun j t ht => ?_, fun a b r as bs k1 k2 k3 k4 => ?_, D.x⟩
  · by_cases hj : i = j
    · subst hj
      rw [List.getElem?_set_self hl] at ht
      cases ht
      exact ⟨_, hp, p, vs, rfl, upd_same, h3, h4, h5, hv⟩
    · rw [List.getElem?_set_ne hj] at ht
      obtain ⟨x, g1, g2⟩ := D.s j t ht
      refine ⟨x, g1, ?_⟩
      cases t with
      | u => exact True.intro
      | d y => exact g2
      | o zs =>
        obtain ⟨r, ws, rfl, k1, k2, k3, k4, k5⟩ := g2
        refine ⟨r, ws, rfl, ?_, k2, k3, k4, k5⟩
        rw [upd_ne (fun z => hj (by rw [z] at g1; exact D.oo i j p xs zs hi ht hp g1))]
        exact k1
      | v y => exact g2
      | l zs =>
        obtain ⟨r, ws, rfl, k1, k3, k4, k5⟩ := g2
        exact ⟨r, ws, rfl, (upd_ne fun z => k4 (by rw [z]; exact h5)).trans k1, k3, k4, k5⟩
  · have back : ∀ (c : Nat) (cs : List PyData), (ρ.set i (.o ys))[c]? = some (.o cs) → ∃ cs', ρ[c]? = some (.o cs') := fun c cs hc => by
      by_cases hci : i = c
      · subst hci; exact ⟨xs, hi⟩
      · rw [List.getElem?_set_ne hci] at hc; exact ⟨cs, hc⟩
    obtain ⟨as', k1'⟩ := back a as k1
    obtain ⟨bs', k2'⟩ := back b bs k2
    exact D.oo a b r as' bs' k1' k2' k3 k4
theorem wk_set : ∀ {i : Nat} {ρ : List Sl}, i < ρ.length → Wk ρ (ρ.set i .u)
  | i, [], h => by cases h
  | 0, a :: as, _ => ⟨.inr rfl, Wk.refl as⟩
  | i + 1, a :: as, h => ⟨.inl rfl, wk_set (by simpa using h)⟩
/-- a slot's own list becomes data -/
theorem DS.freezeS (D : DS R K E XP F0 H0 B0 F H B σ ρ m) {i : Nat} {xs : List PyData} (hi : ρ[i]? = some (.o xs)) : ∃ B', DS R K E XP F0 H0 B0 F H B' σ (ρ.set i (.d (.list xs))) m ∧ Same B B' ∧ (∀ x, H0 x ≠ none → B x = none → B' x = none) := by
  obtain ⟨w, h1, p, us, rfl, h2, h3, h4, h5, h6⟩ := D.s i _ hi
  have hl : i < ρ.length := (List.getElem?_eq_some_iff.mp hi).1
  have D1 : DS R K E XP F0 H0 B0 F H B σ (ρ.set i .u) m := D.wk (wk_set hl)
  have D2 := D1.freeze h2 h3 h4 h5 (fun j ys hj hz => by
    by_cases hji : i = j
    · subst hji; rw [List.getElem?_set_self hl] at hj; cases hj
    · rw [List.getElem?_set_ne hji] at hj
      exact hji (D.oo i j p xs ys hi hj h1 hz))
  refine ⟨upd B p (.lst us), ?_, same_upd h3, fun x hx hb => by rw [upd_ne (fun z => hx (by rw [z]; exact h5))]; exact hb⟩
  have D3 := D2.setD i (v := .ref p) (d := .list xs) (.lst upd_same (dqa_same (same_upd h3) _ h6))
  rw [List.set_set] at D3
  have e1 : σ.set i (some (.ref p)) = σ := set_self h1
  rw [e1] at D3
  exact D3
end
section
variable {M : Type} {R : MR M} {K : PySem.W.Frag} {E : XK} {XP : Addr → M → Prop} {ρ : List Sl} {m : M} {nx : List Sl → M → Prop} {rt : Rk → M → Prop} {bk ct : List Sl → M → Prop} {ta tb tc te : TE} {tr : TA} {t u : TS} {i : Nat}
theorem ws_seq (h : WS R K E XP ρ m t (fun ρ' m' => WS R K E XP ρ' m' u nx rt bk ct) rt bk ct) : WS R K E XP ρ m (tSeq t u) nx rt bk ct := by with_unfolding_all exact (fun D d n r b c =>
  h { D with nx := u D } d (fun w d' s' => w D d' (fun k e t => n k e (s'.trans t)) r (fun k e t => b k e (s'.trans t)) (fun k e t => c k e (s'.trans t))) r b c)
theorem ws_next (hk : nx ρ m) : WS R K E XP ρ m tNext nx rt bk ct := by with_unfolding_all exact (fun D d n _ _ _ => n hk d (Same.refl _))
theorem ws_brk (hk : bk ρ m) : WS R K E XP ρ m tBreak nx rt bk ct := by with_unfolding_all exact (fun D d _ _ b _ => b hk d (Same.refl _))
theorem ws_cont (hk : ct ρ m) : WS R K E XP ρ m tCont nx rt bk ct := by with_unfolding_all exact (fun D d _ _ _ c => c hk d (Same.refl _))
theorem ws_asg (h : WE R K E XP ρ m te fun r m1 => nx (ρ.set i (slOf r)) m1) : WS R K E XP ρ m (tAsg te (gName i)) nx rt bk ct := by with_unfolding_all exact (fun D d n _ _ _ =>
  h d _ fun v r m1 F1 H1 B1 k1 D1 q1 r1 => n k1 (D1.setR i r1 d.own fun x hx => d.st.e x hx) q1.b)
theorem ws_asgG {g : TG} (h : WE R K E XP ρ m te fun r m1 => ∃ x, r = .d x ∧ WG R K E XP ρ m1 g x fun ρ' => nx ρ' m1) : WS R K E XP ρ m (tAsg te g) nx rt bk ct := by with_unfolding_all exact (fun D d n _ _ _ =>
  h d _ fun v r m1 F1 H1 B1 ⟨x, e, k1⟩ D1 q1 r1 => by subst e; exact k1 D1 r1 _ fun σ' ρ' hk D2 => n hk D2 q1.b)
theorem wg_name {d : PyData} {k : List Sl → Prop} (hk : k (ρ.set i (.d d))) : WG R K E XP ρ m (gName i) d k := by with_unfolding_all exact (fun D hd Q q => q _ _ hk (D.setD i hd))
theorem wgs_nil {k : List Sl → Prop} (hk : k ρ) : WGs R K E XP ρ m gNil [] k := by with_unfolding_all exact (fun {F0 H0 B0 F H B σ vs} D hd Q q => by
  cases hd
  exact ⟨rfl, q _ _ hk D⟩)
theorem wgs_cons {g : TG} {gs : TGs} {d : PyData} {ds : List PyData} {k : List Sl → Prop} (h : WG R K E XP ρ m g d fun ρ1 => WGs R K E XP ρ1 m gs ds k) : WGs R K E XP ρ m (gCons g gs) (d :: ds) k := by with_unfolding_all exact (fun {F0 H0 B0 F H B σ vs} D hd Q q => by
  cases hd with
  | cons h1 h2 => exact ⟨_, _, rfl, h D h1 _ fun σ1 ρ1 k1 D1 => k1 D1 h2 _ fun σ2 ρ2 k2 D2 => q σ2 ρ2 k2 D2⟩)
theorem wg_tup {gs : TGs} {n : Nat} {ds : List PyData} {k : List Sl → Prop} (hn : ds.length = n) (h : WGs R K E XP ρ m gs ds k) : WG R K E XP ρ m (gTup K n gs) (.tuple ds) k := by with_unfolding_all exact (fun D hd Q q => by
  obtain ⟨p, vs, rfl, h1, h2⟩ := dq_tup hd
  exact ⟨p, vs, rfl, sqt_same D.st.s h1, by rw [dqa_len h2]; exact hn, h D h2 Q q⟩)
theorem ws_par {j : Nat} (h : WA R K E XP ρ m tr fun rs m1 => ∃ x y, DLo rs = some [x, y] ∧ nx ((ρ.set i (.d x)).set j (.d y)) m1) : WS R K E XP ρ m (tPar i j tr) nx rt bk ct := by with_unfolding_all exact (fun D d n _ _ _ =>
  wa_data (k' := fun ds m1 => ∃ x y, ds = [x, y] ∧ nx ((ρ.set i (.d x)).set j (.d y)) m1) (fun D Q q => h D Q fun vs rs m' F' H' B' ⟨x, y, e, k⟩ => q vs rs m' F' H' B' ⟨_, e, x, y, rfl, k⟩) d _ fun vs ds m1 F1 H1 B1 ⟨x, y, e, k1⟩ D1 q1 hd => by
    subst e
    cases hd with
    | cons h1 h2 =>
      cases h2 with
      | cons h2 h3 =>
        cases h3
        exact ⟨_, _, rfl, n k1 ((D1.setD i h1).setD j h2) q1.b⟩)
theorem ws_augI {f : Int → Int → Int} {a : Int} (hi : ρ[i]? = some (.d (.int a))) (h : WE R K E XP ρ m te fun r m1 => ∃ b, r = .d (.int b) ∧ nx (ρ.set i (.d (.int (f a b)))) m1) : WS R K E XP ρ m (tAug i te (ipI f)) nx rt bk ct := by with_unfolding_all exact (fun D d n _ _ _ => by
  obtain ⟨w, h1, v, rfl, h2⟩ := d.s i _ hi
  cases dq_int h2
  refine ⟨_, h1, h d _ fun v r m1 F1 H1 B1 ⟨b, e, k1⟩ D1 q1 r1 => ?_⟩
  subst e
  exact ⟨a, b, rfl, dq_int r1, n k1 (D1.setD i (.int _)) q1.b⟩)
theorem ws_drop (h : WE R K E XP ρ m te fun _ m1 => nx ρ m1) : WS R K E XP ρ m (tDrop te) nx rt bk ct := by with_unfolding_all exact (fun D d n _ _ _ => h d _ fun v r m1 F1 H1 B1 k1 D1 q1 _ => n k1 D1 q1.b)
theorem ws_append {xs : List PyData} (hi : ρ[i]? = some (.o xs)) (hl : xs.length < 90000) (h : WA R K E XP ρ m tr fun rs m1 => ∃ x, DLo rs = some [x] ∧ nx (ρ.set i (.o (xs ++ [x]))) m1) : WS R K E XP ρ m (tDrop (tBM K "list" rAppend (tVar i) tr)) nx rt bk ct := by with_unfolding_all exact (fun D d n _ _ _ => by
  obtain ⟨w, h1, p, us, rfl, h2, h3, h4, h5, h6⟩ := d.s i _ hi
  refine ⟨.ref p, h1, .inl ⟨rfl, _, sql h2⟩, ?_⟩
  refine wa_data (k' := fun ds m1 => ∃ x, ds = [x] ∧ nx (ρ.set i (.o (xs ++ [x]))) m1) (fun D Q q => h D Q fun vs rs m' F' H' B' ⟨x, e, k⟩ => q vs rs m' F' H' B' ⟨_, e, x, rfl, k⟩) d _ fun vs ds m1 F1 H1 B1 ⟨x, e, k1⟩ D1 q1 hd => ?_
  subst e
  cases hd with
  | cons g1 g2 =>
    cases g2
    have e1 := q1.k _ _ h2 h4
    have hu := dqa_len h6
    exact ⟨p, us, _, rfl, rfl, e1, szl (by omega), n k1 (D1.putO hi h1 (dqa_app (dqa_same q1.b _ h6) (.cons g1 .nil))) q1.b⟩)
theorem ws_ret (h : WE R K E XP ρ m te fun r m1 => rt r m1) : WS R K E XP ρ m (tRet te) nx rt bk ct := by with_unfolding_all exact (fun D d _ rt _ _ => h d _ fun v r m1 F1 H1 B1 k1 D1 q1 r1 => rt k1 D1.st D1.r (r1.base fun x hx => d.st.e x hx))
theorem ws_retO {xs : List PyData} (hi : ρ[i]? = some (.o xs)) (hk : rt (.o xs) m) : WS R K E XP ρ m (tRet (tVar i)) nx rt bk ct := by with_unfolding_all exact (fun D d _ rt _ _ => by
  obtain ⟨w, h1, p, us, rfl, h2, h3, h4, h5, h6⟩ := d.s i _ hi
  exact ⟨_, h1, rt hk d.st d.r ⟨p, us, rfl, h2, h3, h4, h5, h6⟩⟩)
theorem ws_retN (hk : rt (.d .none) m) : WS R K E XP ρ m tRetN nx rt bk ct := by with_unfolding_all exact (fun D d _ rt _ _ => rt hk d.st d.r .non)
theorem ws_if {c : TT} (h : WT R K E XP ρ m c fun b m1 => (b = true → WS R K E XP ρ m1 t nx rt bk ct) ∧ (b = false → WS R K E XP ρ m1 u nx rt bk ct)) : WS R K E XP ρ m (tIfS c t u) nx rt bk ct := by with_unfolding_all exact (fun D d n r b c =>
  h d _ fun x m1 F1 H1 B1 k1 D1 q1 => by
    cases x with
    | true => exact (if_pos rfl).mpr (k1.1 rfl D D1 (fun k e t => n k e (q1.b.trans t)) r (fun k e t => b k e (q1.b.trans t)) (fun k e t => c k e (q1.b.trans t)))
    | false => exact (if_neg Bool.false_ne_true).mpr (k1.2 rfl D D1 (fun k e t => n k e (q1.b.trans t)) r (fun k e t => b k e (q1.b.trans t)) (fun k e t => c k e (q1.b.trans t))))
theorem ws_freeze {xs : List PyData} (i : Nat) (hi : ρ[i]? = some (.o xs)) (h : WS R K E XP (ρ.set i (.d (.list xs))) m t nx rt bk ct) : WS R K E XP ρ m t nx rt bk ct := by with_unfolding_all exact (fun D d n r b c => by
  obtain ⟨B', D', s', _⟩ := d.freezeS hi
  exact h D D' (fun k e t => n k e (s'.trans t)) r (fun k e t => b k e (s'.trans t)) (fun k e t => c k e (s'.trans t)))
theorem ws_wk {ρ' : List Sl} (w : Wk ρ ρ') (h : WS R K E XP ρ' m t nx rt bk ct) : WS R K E XP ρ m t nx rt bk ct := by with_unfolding_all exact (fun D d n r b c => h D (d.wk w) n r b c)
/-- the slots that stay known behind a turn -/
def Nxt (S : Type) (ρs : S → List Sl) (ms : S → M) (I : S → Prop) (ρ' : List Sl) (m' : M) : Prop := ∃ s, Wk ρ' (ρs s) ∧ m' = ms s ∧ I s
theorem nxt {S : Type} {ρs : S → List Sl} {ms : S → M} {I : S → Prop} {ρ' : List Sl} {m' : M} (s : S) (w : Wk ρ' (ρs s)) (e : m' = ms s) (i : I s) : Nxt S ρs ms I ρ' m' := ⟨s, w, e, i⟩
/-- what follows is shown once -/
theorem ws_cut (S : Type) (ρs : S → List Sl) (I : S → Prop) (h : WS R K E XP ρ m t (Nxt S ρs (fun _ => m) I) rt bk ct) (g : ∀ s, I s → WS R K E XP (ρs s) m u nx rt bk ct) : WS R K E XP ρ m (C8.tCut t u) nx rt bk ct := by with_unfolding_all exact (fun {F0 H0 B0 F H B σ} D d n r b c =>
  ⟨fun σ' H' => ∃ s F' B', I s ∧ DS R K E XP F0 H0 B0 F' H' B' σ' (ρs s) m ∧ Same B B', h { D with nx := _ } d (fun ⟨s, w, e, i⟩ d' t => by subst e; exact ⟨s, _, _, i, d'.wk w, t⟩) r b c, fun σ' H' ⟨s, F', B', i, d', s'⟩ => g s i D d' (fun k e t => n k e (s'.trans t)) r (fun k e t => b k e (s'.trans t)) (fun k e t => c k e (s'.trans t))⟩)
/-! loops -/
/-- what is walked gives data and changes nothing -/
def WkI (K : PySem.W.Frag) (J : It) (B : Hp) (xs : List PyData) : Prop := ∃ (n : Nat) (G : Hp → Prop) (Y : Nat → Hp → V → Hp → Prop), n = xs.length ∧ Walk J n G Y ∧ (∀ H, Same B H → G H) ∧ ∀ i H x H', i < n → Y i H x H' → Same B H → H' = H ∧ ∃ d, xs[i]? = some d ∧ Dq K B x d
@[irreducible] def WI (R : MR M) (K : PySem.W.Frag) (E : XK) (XP : Addr → M → Prop) (ρ : List Sl) (m : M) (wi : TI) (k : List PyData → M → Prop) : Prop := ∀ {F0 H0 B0 F H B σ}, DS R K E XP F0 H0 B0 F H B σ ρ m → ∀ Q : It → Hp → Prop, (∀ J xs m' F' H' B', k xs m' → DS R K E XP F0 H0 B0 F' H' B' σ ρ m' → Stq F H B F' H' B' → WkI K J B' xs → Q J H') → wi σ H Q
/-- a result that is a list, as data -/
def LDo : Rk → Option (List PyData)
  | .d (.list xs) => some xs
  | .o xs => some xs
  | _ => none
theorem wi_list {k : List PyData → M → Prop} (h : WE R K E XP ρ m te fun r m1 => ∃ xs, LDo r = some xs ∧ k xs m1) : WI R K E XP ρ m (iList K te) k := by with_unfolding_all exact (fun D Q q =>
  h D _ fun v r m1 F1 H1 B1 ⟨xs, e, k1⟩ D1 q1 r1 => by
    have fin : ∀ (B' : Hp) (p : Addr) (vs : List V), Same B1 B' → DS R K E XP _ _ _ F1 H1 B' _ ρ m1 → (∀ x, _ → B1 x = none → B' x = none) → B' p = some (.lst vs) → DqAll K B' vs xs → ∃ a, V.ref p = .ref a ∧ (∃ xs, SqL K H1 a xs) ∧ Q (Itl K a) H1 := fun B' p vs b1 D' f' hp hd =>
      ⟨p, rfl, ⟨vs, sql (D'.st.s _ _ hp)⟩, q _ xs m1 F1 H1 B' k1 D' ⟨q1.b.trans b1, D'.st.s, fun x h1 h2 => f' x h1 (q1.f x h1 h2), q1.k, q1.n, q1.e⟩ ⟨vs.length, _, _, dqa_len hd, walk_list, fun H hs => sql (hs _ _ hp), fun i H x H' _ hy hs => ⟨hy.1, by obtain ⟨d, h1, h2⟩ := dqa_atV hd hy.2; exact ⟨d, h1, h2⟩⟩⟩⟩
    cases r with
    | d x =>
      cases x with
      | list ys =>
        cases e
        obtain ⟨p, vs, rfl, g1, g2⟩ := dq_lst r1
        exact fin B1 p vs (Same.refl _) D1 (fun _ _ h => h) g1 g2
      | _ => cases e
    | o ys =>
      cases e
      obtain ⟨p, vs, rfl, g1, g2, g3, g4, g5⟩ := r1
      have h0 : ∀ x, _ → _ := fun x hx => D.st.e x hx
      have hp0 : _ := Classical.byContradiction fun z => h0 p z g4
      refine fin (upd B1 p (.lst vs)) p vs (same_upd g2) (D1.freeze g1 g2 g3 hp0 fun j ys hj hz => D.own j ys p hj hz g4) (fun x hx hb => ?_) upd_same (dqa_same (same_upd g2) _ g5)
      rw [upd_ne (fun z => hx (by rw [z]; exact g4))]
      exact hb
    | l _ => cases e
    | v _ => cases e
    | c _ => cases e)
theorem wi_tup {k : List PyData → M → Prop} (h : WE R K E XP ρ m te fun r m1 => ∃ xs, r = .d (.tuple xs) ∧ k xs m1) : WI R K E XP ρ m (iTup K te) k := by with_unfolding_all exact (fun D Q q =>
  h D _ fun v r m1 F1 H1 B1 ⟨xs, e, k1⟩ D1 q1 r1 => by
    subst e
    obtain ⟨p, vs, rfl, g1, g2⟩ := dq_tup r1
    exact ⟨p, rfl, ⟨vs, sqt_same D1.st.s g1⟩, q _ xs m1 F1 H1 B1 k1 D1 q1 ⟨vs.length, _, _, dqa_len g2, walk_tup, fun H hs => sqt_same hs g1, fun i H x H' _ hy hs => ⟨hy.1, by obtain ⟨d, h1, h2⟩ := dqa_atV g2 hy.2; exact ⟨d, h1, h2⟩⟩⟩⟩)
/-- the signs of a text -/
def signs (z : Str) : List PyData := z.cps.toList.map fun c => .str ⟨#[c]⟩
theorem wi_str {k : List PyData → M → Prop} (h : WE R K E XP ρ m te fun r m1 => ∃ z, r = .d (.str z) ∧ k (signs z) m1) : WI R K E XP ρ m (iStr te) k := by with_unfolding_all exact (fun D Q q =>
  h D _ fun v r m1 F1 H1 B1 ⟨z, e, k1⟩ D1 q1 r1 => by
    subst e
    exact ⟨z, dq_str r1, q _ _ m1 F1 H1 B1 k1 D1 q1 ⟨z.cps.size, _, _, by unfold signs; simp, walk_str, fun _ _ => True.intro, fun i H x H' _ hy hs => by
      obtain ⟨h1, c, hc, rfl⟩ := hy
      refine ⟨h1, _, ?_, .str _⟩
      unfold signs
      rw [List.getElem?_map]
      have : z.cps.toList[i]? = some c := by simpa using hc
      rw [this]; rfl⟩⟩)
/-- the numbers of a range -/
def nums (lo : Int) (n : Nat) : List PyData := (List.range n).map fun (j : Nat) => .int (lo + (j : Int))
theorem nums_len (lo : Int) (n : Nat) : (nums lo n).length = n := by unfold nums; rw [List.length_map, List.length_range]
theorem nums_at {lo : Int} {n i : Nat} {x : PyData} (h : (nums lo n)[i]? = some x) : i < n ∧ x = .int (lo + (i : Int)) := by
  unfold nums at h
  rw [List.getElem?_map] at h
  by_cases hi : i < n
  · rw [List.getElem?_range hi] at h
    exact ⟨hi, (Option.some.inj h).symm⟩
  · rw [List.getElem?_eq_none (by rw [List.length_range]; omega)] at h
    cases h
theorem wkI_range {B : Hp} {lo : Int} {n : Nat} : WkI K (Itr lo n) B (nums lo n) := ⟨n, _, _, (nums_len lo n).symm, walk_range, fun _ _ => True.intro, fun i H x H' hi hy hs => by
  obtain ⟨h1, rfl⟩ := hy
  refine ⟨h1, .int (lo + i), ?_, .int _⟩
  unfold nums
  rw [List.getElem?_map, List.getElem?_range hi]; rfl⟩
theorem wi_rng1 {k : List PyData → M → Prop} (h : WA R K E XP ρ m tr fun rs m1 => ∃ j, rs = [.d (.int j)] ∧ -(2 ^ 62) ≤ j ∧ j < 2 ^ 62 ∧ k (nums 0 j.toNat) m1) : WI R K E XP ρ m (iRng1 tr) k := by with_unfolding_all exact (fun D Q q =>
  h D _ fun vs rs m1 F1 H1 B1 ⟨j, e, h1, h2, k1⟩ D1 q1 r1 => by
    subst e
    obtain ⟨v, rfl, r2⟩ := relA1 r1
    exact ⟨j, by rw [dq_int r2], h1, h2, q _ _ m1 F1 H1 B1 k1 D1 q1 wkI_range⟩)
theorem wi_rng2 {k : List PyData → M → Prop} (h : WA R K E XP ρ m tr fun rs m1 => ∃ i j, rs = [.d (.int i), .d (.int j)] ∧ (-(2 ^ 62) ≤ i ∧ i < 2 ^ 62 ∧ -(2 ^ 62) ≤ j ∧ j < 2 ^ 62) ∧ k (nums i (j - i).toNat) m1) : WI R K E XP ρ m (iRng2 tr) k := by with_unfolding_all exact (fun D Q q =>
  h D _ fun vs rs m1 F1 H1 B1 ⟨i, j, e, h1, k1⟩ D1 q1 r1 => by
    subst e
    obtain ⟨v, w, rfl, r2, r3⟩ := relA2 r1
    exact ⟨i, j, by rw [dq_int r2, dq_int r3], h1, q _ _ m1 F1 H1 B1 k1 D1 q1 wkI_range⟩)
theorem ws_for {wi : TI} {g : TG} {tb : TS} (h : WI R K E XP ρ m wi fun xs m1 => ∃ (S : Type) (ρs : S → List Sl) (ms : S → M) (I : Nat → S → Prop), Nxt S ρs ms (I 0) ρ m1 ∧
    (∀ i x s, xs[i]? = some x → I i s → WG R K E XP (ρs s) (ms s) g x fun ρ1 => WS R K E XP ρ1 (ms s) tb (Nxt S ρs ms (I (i + 1))) rt nx (Nxt S ρs ms (I (i + 1)))) ∧
    ∀ s, I xs.length s → nx (ρs s) (ms s)) : WS R K E XP ρ m (tFor wi g tb) nx rt bk ct := by with_unfolding_all exact (fun {F0 H0 B0 F H B σ} D d n r b c => by
  refine h d _ fun J xs m1 F1 H1 B1 ⟨S, ρs, ms, I, ⟨s0, w0, e0, i0⟩, step, fin⟩ D1 q1 hw => ?_
  obtain ⟨nn, G, Y, hn, wk, hG, hY⟩ := hw
  refine for_it wk (fun i σ' H' => ∃ s F' B', I i s ∧ DS R K E XP F0 H0 B0 F' H' B' σ' (ρs s) (ms s) ∧ Same B1 B') ⟨s0, F1, B1, i0, by subst e0; exact D1.wk w0, Same.refl _⟩ (fun i σ' H' _ ⟨s, F', B', _, D', b'⟩ => hG H' (b'.trans D'.st.s)) ?_ ?_
  · rintro i x σ' H' H2 hi ⟨s, F', B', hI, D', b'⟩ hy
    obtain ⟨rfl, dd, hx, hd⟩ := hY i H' x H2 hi hy (b'.trans D'.st.s)
    refine step i dd s hx hI D' (dq_same b' _ hd) _ fun σ2 ρ2 hs D2 => ?_
    exact hs { D with nx := _, ct := _, bk := _ } D2 (fun ⟨s, w, e, i⟩ d' t => by subst e; exact ⟨s, _, _, i, d'.wk w, b'.trans t⟩) r (fun k e t => n k e (q1.b.trans (b'.trans t))) (fun ⟨s, w, e, i⟩ d' t => by subst e; exact ⟨s, _, _, i, d'.wk w, b'.trans t⟩)
  · rintro σ' H' ⟨s, F', B', hI, D', b'⟩
    rw [hn] at hI
    exact n (fin s hI) D' (q1.b.trans b'))
end
/-! ## comprehensions -/
def wipeS (ρ : List Sl) : List Nat → List Sl
  | [] => ρ
  | v :: vs => (wipeS ρ vs).set v .u
theorem wipe_idem (σ : L2.St) (vs : List Nat) : wipe (wipe σ vs) vs = wipe σ vs := by
  refine List.ext_getElem? fun j => ?_
  by_cases hj : j ∈ vs
  · rw [wipe_in hj, wipe_in hj, wipe_length]
  · rw [wipe_out hj]
section
variable {M : Type} {R : MR M} {K : PySem.W.Frag} {E : XK} {XP : Addr → M → Prop} {ρ : List Sl} {m : M} {F0 F : AP} {H0 B0 H B Hs : Hp} {σ : L2.St}
theorem DS.wipe (D : DS R K E XP F0 H0 B0 F H B σ ρ m) : ∀ vs : List Nat, DS R K E XP F0 H0 B0 F H B (wipe σ vs) (wipeS ρ vs) m
  | [] => D
  | v :: vs => (DS.wipe D vs).setW v True.intro fun _ _ e => by cases e
theorem DS.putN (D : DS R K E XP F0 H0 B0 F H B σ ρ m) {p : Addr} {o : HO} (hb : B p = none) (hF : ¬ F p) (h0 : H0 p = none) (hn : ∀ (i : Nat) (xs : List PyData), ρ[i]? = some (.o xs) → σ[i]? ≠ some (some (.ref p))) : DS R K E XP F0 H0 B0 F (upd H p o) B σ ρ m where
  l := D.l
  st := D.st.put h0 hb
  r := R.frame D.r (fun x hx => upd_ne fun z => hF (by rw [← z]; exact hx)) (Same.refl _) fun x hx => (R.dom D.r hx).2
  s := fun i t ht => by
    obtain ⟨w, h1, h2⟩ := D.s i t ht
    refine ⟨w, h1, ?_⟩
    cases t with
    | u => exact True.intro
    | d x => exact h2
    | o xs =>
      obtain ⟨q, us, rfl, h3, h4, h5, h6, h7⟩ := h2
      refine ⟨q, us, rfl, ?_, h4, h5, h6, h7⟩
      rw [upd_ne (fun z => hn i xs ht (by rw [h1, z]))]
      exact h3
    | v x => exact h2
    | l xs =>
      obtain ⟨q, us, rfl, h3, h5, h6, h7⟩ := h2
      exact ⟨q, us, rfl, (upd_ne fun z => h6 (by rw [z]; exact h0)).trans h3, h5, h6, h7⟩
  oo := D.oo
  x := D.x
end
section
variable {M : Type} {R : MR M} {K : PySem.W.Frag} {E : XK} {XP : Addr → M → Prop} {ρ : List Sl} {m : M} {k : Rk → M → Prop} {ta tb tc te : TE} {tr : TA}
/-- a target sets no other slots than these -/
def Wipes (g : TG) (vs : List Nat) : Prop := ∀ v σ H Q Q', g v σ H Q → (∀ σ', Q σ' H → L2.wipe σ' vs = L2.wipe σ vs → Q' σ' H) → g v σ H Q'
def WipesS (g : TGs) (vs : List Nat) : Prop := ∀ v σ H Q Q', g v σ H Q → (∀ σ', Q σ' H → L2.wipe σ' vs = L2.wipe σ vs → Q' σ' H) → g v σ H Q'
theorem wipes_name {i : Nat} {vs : List Nat} (h : i ∈ vs) : Wipes (gName i) vs := fun v σ H Q Q' q w => w _ q (wipe_set h)
theorem wipes_nil {vs : List Nat} : WipesS gNil vs := fun v σ H Q Q' ⟨e, q⟩ w => ⟨e, w _ q rfl⟩
theorem wipes_cons {g : TG} {gs : TGs} {vs : List Nat} (h1 : Wipes g vs) (h2 : WipesS gs vs) : WipesS (gCons g gs) vs := fun v σ H Q Q' ⟨x, xs, e, q⟩ w =>
  ⟨x, xs, e, h1 _ _ _ _ _ q fun σ' q' w' => h2 _ _ _ _ _ q' fun σ'' q'' w'' => w _ q'' (w''.trans w')⟩
theorem wipes_tup {n : Nat} {gs : TGs} {vs : List Nat} (h : WipesS gs vs) : Wipes (gTup K n gs) vs := fun v σ H Q Q' ⟨p, xs, e, h1, h2, q⟩ w => ⟨p, xs, e, h1, h2, h _ _ _ _ _ q w⟩
theorem we_lc {wi : TI} {g : TG} {tt : TT} {vs : List Nat} (hsl : Wipes g vs) (h : WI R K E XP ρ m wi fun xs m1 => ∃ (I : Nat → List PyData → Prop), I 0 [] ∧
    (∀ i x ys, xs[i]? = some x → I i ys → WG R K E XP (wipeS ρ vs) m1 g x fun ρ1 => WT R K E XP ρ1 m1 tt fun b m2 => m2 = m1 ∧
      (b = true → WA R K E XP ρ1 m1 (tCons te tNil) fun rs m3 => m3 = m1 ∧ ∃ y, DLo rs = some [y] ∧ ys.length < 90000 ∧ I (i + 1) (ys ++ [y])) ∧ (b = false → I (i + 1) ys)) ∧
    ∀ ys, I xs.length ys → k (.o ys) m1) : WE R K E XP ρ m (tLc wi g tt te vs) k := by with_unfolding_all exact (fun {F0 H0 B0 F H B σ} D Q q =>
  h D _ fun J xs m1 F1 H1 B1 ⟨I, i0, step, fin⟩ D1 q1 ⟨n, G, Y, hn, wk, hG, hY⟩ A hA => by
    have hA0 : H0 A = none := Classical.byContradiction fun z => D1.st.e A z hA
    have hAn : ∀ (i : Nat) (xs : List PyData), ρ[i]? = some (.o xs) → σ[i]? ≠ some (some (.ref A)) := fun i xs h1 h2 => D1.own i xs A h1 h2 hA
    refine lc_it wk (fun i G' => ∃ F' B' us ys, I i ys ∧ DS R K E XP F0 H0 B0 F' G' B' σ ρ m1 ∧ Stq F1 H1 B1 F' G' B' ∧ G' A = some (.lst us) ∧ B' A = none ∧ ¬ F' A ∧ DqAll K B' us ys)
      ⟨F1, B1, [], [], i0, D1.newO hA, .newO D1.st.s hA, upd_same, b_none D1.st.s hA, D1.nF hA, .nil⟩ (fun i G' _ ⟨F', B', _, _, _, D', q', _⟩ => hG G' (q'.b.trans D'.st.s)) ?_ ?_
    · rintro i x G' G2 hi ⟨F', B', us, ys, hI, D', q', eA, bA, fA, hd⟩ hy
      obtain ⟨rfl, dd, hx, hdx⟩ := hY i G' x G2 hi hy (q'.b.trans D'.st.s)
      have Dw := D'.wipe vs
      refine hsl _ _ _ _ _ (step i dd ys hx hI Dw (dq_same q'.b _ hdx) (fun σ2 H2 => H2 = G2 → ∃ ρ2, (WT R K E XP ρ2 m1 tt fun b m2 => m2 = m1 ∧ (b = true → WA R K E XP ρ2 m1 (tCons te tNil) fun rs m3 => m3 = m1 ∧ ∃ y, DLo rs = some [y] ∧ ys.length < 90000 ∧ I (i + 1) (ys ++ [y])) ∧ (b = false → I (i + 1) ys)) ∧ DS R K E XP F0 H0 B0 F' G2 B' σ2 ρ2 m1) fun σ2 ρ2 hT D2 _ => ⟨ρ2, hT, D2⟩) fun σ2 hq2 w2 => ⟨w2.trans (wipe_idem σ vs), ?_⟩
      obtain ⟨ρ2, hT, D2⟩ := hq2 rfl
      refine hT D2 _ fun b m2 F3 H3 B3 ⟨e2, hb1, hb2⟩ D3 q3 => ?_
      subst e2
      have eA3 := q3.k _ _ eA fA
      have hAne : G2 A ≠ none := by rw [eA]; simp
      cases b with
      | false =>
        refine (if_neg Bool.false_ne_true).mpr ⟨F3, B3, us, ys, hb2 rfl, D'.step q3 D3.r, q'.trans q3, eA3, q3.f _ hAne bA, q3.n _ hAne fA, dqa_same q3.b _ hd⟩
      | true =>
        refine (if_pos rfl).mpr ?_
        have hfin := wa_data (k' := fun ds m3 => m3 = m2 ∧ ∃ y, ds = [y] ∧ ys.length < 90000 ∧ I (i + 1) (ys ++ [y])) (fun D Q q => hb1 rfl D Q fun vs rs m' F' H' B' ⟨e, y, e2, hl, hk⟩ => q vs rs m' F' H' B' ⟨_, e2, e, y, rfl, hl, hk⟩) D3 (fun vs H4 => match vs with
          | [y] => ∃ acc, H4 A = some (.lst acc) ∧ acc.length < sizeLine ∧ ∃ F' B' us ys, I (i + 1) ys ∧ DS R K E XP F0 H0 B0 F' (upd H4 A (.lst (acc ++ [y]))) B' σ ρ m2 ∧ Stq F1 H1 B1 F' (upd H4 A (.lst (acc ++ [y]))) B' ∧ (upd H4 A (.lst (acc ++ [y]))) A = some (.lst us) ∧ B' A = none ∧ ¬ F' A ∧ DqAll K B' us ys
          | _ => False) (fun ws ds m4 F4 H4 B4 ⟨e, y, e2, hl, hk⟩ D4 q4 hd4 => by
          subst e e2
          obtain ⟨z, rfl⟩ : ∃ z, ws = [z] := by
            cases hd4 with
            | cons _ h => cases h; exact ⟨_, rfl⟩
          have q34 := q3.trans q4
          have eA4 := q34.k _ _ eA fA
          have bA4 := q34.f _ hAne bA
          have fA4 := q34.n _ hAne fA
          have hus := dqa_len hd
          have q5 := q'.trans q34
          exact ⟨us, eA4, szl (by omega), F4, B4, us ++ [z], ys ++ [y], hk, (D'.step q34 D4.r).putN bA4 fA4 hA0 hAn, q5.put hA bA4, upd_same, bA4, fA4, dqa_app (dqa_same q34.b _ hd) hd4⟩)
        exact hfin
    · rintro G' ⟨F', B', us, ys, hI, D', q', eA, bA, fA, hd⟩
      rw [hn] at hI
      exact q _ _ m1 F' G' B' (fin ys hI) D' (q1.trans q') ⟨A, us, rfl, eA, bA, fA, Classical.byContradiction fun z => q1.e A z hA, hd⟩)
end
section
variable {M : Type} {R : MR M} {K : PySem.W.Frag} {E : XK} {XP : Addr → M → Prop} {ρ : List Sl} {m : M} {k : Rk → M → Prop} {ta tb tc te : TE} {tr : TA} {i j : Int}
theorem opP_add (hk : k (.d (.int (i + j))) m) : OpP R K E XP ρ m (rI0 fun i j => .int (i + j)) (.d (.int i)) (.d (.int j)) k := opP_i0 hk
theorem opP_sub (hk : k (.d (.int (i - j))) m) : OpP R K E XP ρ m (rI0 fun i j => .int (i - j)) (.d (.int i)) (.d (.int j)) k := opP_i0 hk
theorem opP_lt (hk : k (.d (.bool (decide (i < j)))) m) : OpP R K E XP ρ m (rI0 fun i j => .bl (decide (i < j))) (.d (.int i)) (.d (.int j)) k := opP_i0 hk
theorem opP_le (hk : k (.d (.bool (decide (i ≤ j)))) m) : OpP R K E XP ρ m (rI0 fun i j => .bl (decide (i ≤ j))) (.d (.int i)) (.d (.int j)) k := opP_i0 hk
theorem opP_gt (hk : k (.d (.bool (decide (j < i)))) m) : OpP R K E XP ρ m (rI0 fun i j => .bl (decide (j < i))) (.d (.int i)) (.d (.int j)) k := opP_i0 hk
theorem opP_ge (hk : k (.d (.bool (decide (j ≤ i)))) m) : OpP R K E XP ρ m (rI0 fun i j => .bl (decide (j ≤ i))) (.d (.int i)) (.d (.int j)) k := opP_i0 hk
theorem opP_mul (hc : CMul i j) (hk : k (.d (.int (i * j))) m) : OpP R K E XP ρ m (rI CMul fun i j => .int (i * j)) (.d (.int i)) (.d (.int j)) k := opP_ic hc hk
theorem opP_mod (hc : 0 < j) (hk : k (.d (.int (i % j))) m) : OpP R K E XP ρ m (rI (fun _ j => 0 < j) fun i j => .int (i % j)) (.d (.int i)) (.d (.int j)) k := opP_ic (C := fun _ j => 0 < j) (g := fun i j => .int (i % j)) hc hk
theorem opP_fdiv (hc : CDiv i j) (hk : k (.d (.int (i / j))) m) : OpP R K E XP ρ m (rI CDiv fun i j => .int (i / j)) (.d (.int i)) (.d (.int j)) k := opP_ic hc hk
theorem we_chain {r r' : R2} (h : WE R K E XP ρ m ta fun a m1 => WE R K E XP ρ m1 tb fun b m2 => OpP R K E XP ρ m2 r a b fun c m3 => ∃ z, c = .d (.bool z) ∧ (z = true → WE R K E XP ρ m3 tc fun d m4 => OpP R K E XP ρ m4 r' b d k) ∧ (z = false → k (.d (.bool false)) m3)) : WE R K E XP ρ m (tChain r r' ta tb tc) k := by with_unfolding_all exact (fun D Q q =>
  h D _ fun v a m1 F1 H1 B1 k1 D1 q1 r1 => k1 D1 _ fun w b m2 F2 H2 B2 k2 D2 q2 r2 => k2 D2 (r1.step q2) (r2.base fun x hx => q1.e x hx) _ fun z c m3 F3 H3 B3 ⟨y, e, k3, k4⟩ D3 q3 r3 => by
    subst e
    refine ⟨y, dq_bl r3, ?_⟩
    cases y with
    | true => exact (if_pos rfl).mpr (k3 rfl D3 _ fun u d m4 F4 H4 B4 k5 D4 q4 r4 => k5 D4 ((r2.step q3).step q4) (r4.base fun x hx => q3.e x (q2.e x hx)) _ fun v c m' F' H' B' k6 D5 q5 r5 => q v c m' F' H' B' k6 D5 (q1.trans (q2.trans (q3.trans (q4.trans q5)))) (r5.base fun x hx => q4.e x (q3.e x (q2.e x (q1.e x hx)))))
    | false => exact (if_neg Bool.false_ne_true).mpr (q _ _ m3 F3 H3 B3 (k4 rfl) D3 (q1.trans (q2.trans q3)) (.bl false)))
/-- truth -/
def truD : PyData → Option Bool
  | .none => some false
  | .bool b => some b
  | .int i => some (i != 0)
  | .str x => if x.length ≤ 100000 then some ((x.length : Int) != 0) else none
  | .list xs => some (!xs.isEmpty)
  | .tuple xs => some (!xs.isEmpty)
  | _ => none
theorem wt_tru {k : Bool → M → Prop} (h : WE R K E XP ρ m te fun r m1 => ∃ d b, asD r = some d ∧ truD d = some b ∧ k b m1) : WT R K E XP ρ m (tTru K te) k := by with_unfolding_all exact (fun D Q q =>
  h D _ fun v r m1 F1 H1 B1 ⟨d, b, e, t, k1⟩ D1 q1 r1 => by
    refine ⟨b, ?_, q b m1 F1 H1 B1 k1 D1 q1⟩
    have hd := rel_asD D1.st.s r1 e
    have ie : ∀ {vs : List V} {ds : List PyData}, vs.length = ds.length → vs.isEmpty = ds.isEmpty := fun {vs ds} h => by cases vs <;> cases ds <;> first | rfl | cases h
    cases hd with
    | non => cases t; rfl
    | bl b => cases t; rfl
    | int i => cases t; rfl
    | str x =>
      by_cases hl : x.length ≤ 100000
      · have : some ((x.length : Int) != 0) = some b := by rw [← t]; exact (if_pos hl).symm
        cases this
        exact ⟨sz hl, rfl⟩
      · have : none = some b := by rw [← t]; exact (if_neg hl).symm
        cases this
    | lst h a => cases t; exact .inl ⟨_, h, by rw [ie (dpa_len a)]⟩
    | tup h a => cases t; exact .inr (.inl ⟨_, h, by rw [ie (dpa_len a)]⟩))
theorem callK_all {X : Cx} (h : X.K = K) (hc : X.calm = true) : CallR X (.builtin "all") (rAll K) := by subst h; exact cr_all hc
theorem callK_any {X : Cx} (h : X.K = K) (hc : X.calm = true) : CallR X (.builtin "any") (rAny K) := by subst h; exact cr_any hc
theorem callK_sum {X : Cx} (h : X.K = K) (hc : X.calm = true) : CallR X (.builtin "sum") (rSum K) := by subst h; exact cr_sum hc
theorem dqa_bools {H : Hp} : ∀ {bs : List Bool} {vs : List V}, DqAll K H vs (bs.map .bool) → vs = bs.map V.bl
  | [], _, h => by cases h; rfl
  | b :: bs, _, h => by
    cases h with
    | cons h1 h2 => rw [dq_bl h1, dqa_bools h2]; rfl
theorem dqa_intsV {H : Hp} : ∀ {bs : List Int} {vs : List V}, DqAll K H vs (bs.map .int) → vs = bs.map V.int
  | [], _, h => by cases h; rfl
  | b :: bs, _, h => by
    cases h with
    | cons h1 h2 => rw [dq_int h1, dqa_intsV h2]; rfl
theorem dqa_strsV {H : Hp} : ∀ {bs : List Str} {vs : List V}, DqAll K H vs (bs.map .str) → vs = bs.map V.str
  | [], _, h => by cases h; rfl
  | b :: bs, _, h => by
    cases h with
    | cons h1 h2 => rw [dq_str h1, dqa_strsV h2]; rfl
theorem cbP_all {a : Rk} {bs : List Bool} (ha : LR a (bs.map .bool)) (hk : k (.d (.bool (bs.all id))) m) : CbP R K E XP ρ m (rAll K) [a] k :=
  cbP_sc (v := .bl (bs.all id)) rfl (fun s ra Q q => by
    obtain ⟨v, rfl, r1⟩ := relA1 ra
    obtain ⟨p, vs, rfl, h1, h2⟩ := rel_lst s r1 ha
    cases dqa_bools h2
    exact ⟨p, bs, rfl, sql h1, q⟩) hk
theorem cbP_any {a : Rk} {bs : List Bool} (ha : LR a (bs.map .bool)) (hk : k (.d (.bool (bs.any id))) m) : CbP R K E XP ρ m (rAny K) [a] k :=
  cbP_sc (v := .bl (bs.any id)) rfl (fun s ra Q q => by
    obtain ⟨v, rfl, r1⟩ := relA1 ra
    obtain ⟨p, vs, rfl, h1, h2⟩ := rel_lst s r1 ha
    cases dqa_bools h2
    exact ⟨p, bs, rfl, sql h1, q⟩) hk
theorem cbP_sum {a : Rk} {bs : List Int} (ha : LR a (bs.map .int)) (hk : k (.d (.int bs.sum)) m) : CbP R K E XP ρ m (rSum K) [a] k :=
  cbP_sc (v := .int bs.sum) rfl (fun s ra Q q => by
    obtain ⟨v, rfl, r1⟩ := relA1 ra
    obtain ⟨p, vs, rfl, h1, h2⟩ := rel_lst s r1 ha
    cases dqa_intsV h2
    exact ⟨p, bs, rfl, sql h1, q⟩) hk
/-- sep.join(list of texts) -/
def rJoinK (K : PySem.W.Frag) : V → List V → Hp → VK → Prop := fun x xs H Q => ∃ a p, ∃ ys : List Str, x = .str a ∧ xs = [.ref p] ∧ (SqL K H p (ys.map V.str) ∨ SqT K H p (ys.map V.str)) ∧ (ys.map (·.length)).sum + ys.length * a.length ≤ 16777216 ∧ Q (.str (Txt.join a ys)) H
theorem peK_join {X : Cx} {to : TE} {o e : Expr} {apos pos : Pos} (h : X.K = K) (ho : PE X o to) (he : PE X e te) (hs : starEach [e] X.env = [(false, eval e X.env)] := by rfl) (hbase : attributeBase o "join" X.env (eval o X.env) = eval o X.env := by rfl) (hline : (apos.endLine == pos.line) = true := by rfl) :
    PE X (.Call (.Attribute o "join" apos) [e] [] pos) (tM1 (rJoinK K) to te) := by subst h; exact pe_join ho he hs hbase hline
theorem we_join {to : TE} (h : WE R K E XP ρ m to fun a m1 => ∃ z, a = .d (.str z) ∧ WE R K E XP ρ m1 te fun b m2 => ∃ ys, LR b (ys.map .str) ∧ (ys.map (·.length)).sum + ys.length * z.length ≤ 16777216 ∧ k (.d (.str (Txt.join z ys))) m2) : WE R K E XP ρ m (tM1 (rJoinK K) to te) k := by with_unfolding_all exact (fun D Q q =>
  h D _ fun v a m1 F1 H1 B1 ⟨z, e, k1⟩ D1 q1 r1 => by
    subst e
    cases dq_str r1
    refine ⟨⟨z, rfl⟩, k1 D1 _ fun w b m2 F2 H2 B2 ⟨ys, hl, hz, k2⟩ D2 q2 r2 => ?_⟩
    obtain ⟨p, vs, rfl, h1, h2⟩ := rel_lst D2.st.s r2 hl
    cases dqa_strsV h2
    exact ⟨z, p, ys, rfl, rfl, .inl (sql h1), hz, q _ _ m2 F2 H2 B2 k2 D2 (q1.trans q2) (.str _)⟩)
end
/-! ## a def's body -/
def isDo : Rk → Prop
  | .d _ => True
  | .o _ => True
  | _ => False
theorem run_P {K : PySem.W.Frag} {E : XK} {pre : List PyData → Prop} {post : List PyData → Rk → Prop} {vs : List V} {H : Hp} {Q : VK} {N : List Str} {ts : TS} (h : spP K pre post vs H Q E) (n : Nat) (hn : N.length - vs.length = n)
    (body : ∀ ds, pre ds → WS noM K E (fun _ _ => False) (ds.map Sl.d ++ List.replicate n Sl.u) () ts (fun _ _ => post ds (.d .none)) (fun r _ => post ds r ∧ isDo r) (fun _ _ => False) (fun _ _ => False)) :
    ts { nx := fun _ H' => Q .non H', rt := Q } (L2.start N vs) H := by
  obtain ⟨ds, B, hd, hB, hp, q⟩ := h
  have hl := dqa_len hd
  have D0 : DS noM K E (fun _ _ => False) (fun _ => False) H B (fun _ => False) H B (L2.start N vs) (ds.map Sl.d ++ List.replicate n Sl.u) () := by
    refine ⟨by unfold L2.start; simp [hl]; omega, .refl hB, fun _ => id, fun i t ht => ?_, fun i j p xs ys h1 => ?_, fun _ _ _ _ _ z => z.elim⟩
    · unfold L2.start
      by_cases hi : i < ds.length
      · rw [List.getElem?_append_left (by rw [List.length_map]; exact hi), List.getElem?_map, List.getElem?_eq_getElem hi] at ht
        cases ht
        obtain ⟨v, h1, h2⟩ := dqa_at hd (List.getElem?_eq_getElem hi)
        refine ⟨some v, ?_, v, rfl, h2⟩
        rw [List.getElem?_append_left (by rw [List.length_map]; omega), List.getElem?_map, h1]
        rfl
      · rw [List.getElem?_append_right (by rw [List.length_map]; omega), List.getElem?_replicate] at ht
        split at ht
        · next hc =>
          cases ht
          rw [List.length_map] at hc
          refine ⟨none, ?_, True.intro⟩
          rw [List.getElem?_append_right (by rw [List.length_map]; omega), List.getElem?_replicate, if_pos (by rw [List.length_map]; omega)]
        · cases ht
    · have := List.mem_of_getElem? h1
      rcases List.mem_append.mp this with z | z
      · obtain ⟨x, _, e⟩ := List.mem_map.mp z; cases e
      · have := (List.mem_replicate.mp z).2; cases this
  have fin : ∀ {v r F' H' B'}, (post ds r ∧ isDo r) → Stq (fun _ => False) H B F' H' B' → (noM.rel () F' H' B') → RelR K H F' H' B' v r → Q v H' := fun {v r F' H' B'} hr st hF rel =>
    q v r H' B' hr.1 (fun x o hx => st.k x o hx id) st.b st.s st.f (by
      cases r with
      | d x => exact rel
      | o xs => obtain ⟨p, us, e, g1, g2, _, g4, g5⟩ := rel; exact ⟨p, us, e, g1, g2, g4, g5⟩
      | l xs => exact hr.2.elim
      | v x => exact hr.2.elim
      | c x => exact hr.2.elim)
  have hb := body ds hp
  unfold WS at hb
  exact hb _ D0 (fun hk D' _ => fin ⟨hk, True.intro⟩ D'.st D'.r .non) (fun hk st hF rel => fin hk st hF rel) (fun z => z.elim) (fun z => z.elim)
/-! ## a def of data, whole -/
theorem cx_K {CX : CXT} {P : Program} {w : World} {K : PySem.W.Frag} {mg : Str → Option Value} {base : Heap} {N : List Str} {qual : Str} {scope : Scope} {f : Addr} {cd : Value} {A : Around} {outer : List Env} {s : Shared} {H : Hp} {E : XK} : (cxOf CX P w K mg base N qual scope f cd A outer s H E).K = K := rfl
theorem cx_Kn {CX : CXT} {P : Program} {w : World} {K : PySem.W.Frag} {mg : Str → Option Value} {base : Heap} {N : List Str} {qual : Str} {scope : Scope} {f : Addr} {cd : Value} {A : Around} {outer : List Env} {s : Shared} {H : Hp} {E : XK} : (cxOf CX P w K mg base N qual scope f cd A outer s H E).nox.K = K := rfl
theorem okP {P : Program} {w : World} {K : PySem.W.Frag} {mg : Str → Option Value} {base : Heap} {x qual : Str} {st : Stmt} {f : Addr} {fd : FuncData} {N ps : List Str} {k : Nat} {pre : List PyData → Prop} {post : List PyData → Rk → Prop}
    (F : Fun K x qual st f fd) (S : FnScope N ps (defScope st)) (n : Nat) (hn : N.length = ps.length + n) (len : ∀ ds, pre ds → ds.length = ps.length)
    (hb : ∀ (cdv : Value) (A : Around) (outer : List Env) (s : Shared) (H : Hp) (E : XK), Room k (A.deeper (envOfC qual (defScope st) s.heap.objs.size f cdv)) →
      ∃ t, PSs (cxOf CX0 P w K mg base N qual (defScope st) f cdv A outer s H E).nox (defBody st) t ∧
        ∀ ds, pre ds → WS noM K E (fun _ _ => False) (ds.map Sl.d ++ List.replicate n Sl.u) () t (fun _ _ => post ds (.d .none)) (fun r _ => post ds r ∧ isDo r) (fun _ _ => False) (fun _ _ => False)) : FnOk P w K mg base CX0 (k + 1) f fd ps (spP K pre post) :=
  F.ok S (fun vs H Q E ⟨ds, B, hd, _, hp, _⟩ => (dqa_len hd).trans (len ds hp)) fun cdv A outer s H vs Q E hr h => by
    obtain ⟨t, h1, h2⟩ := hb cdv A outer s H E hr
    refine ⟨t, h1, run_P h n ?_ fun ds hp => h2 ds hp⟩
    obtain ⟨ds, B, hd, _, hp, _⟩ := h
    rw [dqa_len hd, len ds hp, hn]
    omega
/-- one, two or three things of data -/
def P1 (p : PyData → Prop) : List PyData → Prop := fun ds => ∃ x, ds = [x] ∧ p x
def P2 (p : PyData → PyData → Prop) : List PyData → Prop := fun ds => ∃ x y, ds = [x, y] ∧ p x y
def P3 (p : PyData → PyData → PyData → Prop) : List PyData → Prop := fun ds => ∃ x y z, ds = [x, y, z] ∧ p x y z
theorem P1.len {p : PyData → Prop} : ∀ ds, P1 p ds → ds.length = 1 := fun _ ⟨_, e, _⟩ => by rw [e]; rfl
theorem P2.len {p : PyData → PyData → Prop} : ∀ ds, P2 p ds → ds.length = 2 := fun _ ⟨_, _, e, _⟩ => by rw [e]; rfl
theorem P3.len {p : PyData → PyData → PyData → Prop} : ∀ ds, P3 p ds → ds.length = 3 := fun _ ⟨_, _, _, e, _⟩ => by rw [e]; rfl
/-- the answer is a function of the arguments -/
def R1 (f : PyData → PyData) : List PyData → Rk → Prop := fun ds r => ∀ x, ds = [x] → r = .d (f x)
def R2' (f : PyData → PyData → PyData) : List PyData → Rk → Prop := fun ds r => ∀ x y, ds = [x, y] → r = .d (f x y)
def R3 (f : PyData → PyData → PyData → PyData) : List PyData → Rk → Prop := fun ds r => ∀ x y z, ds = [x, y, z] → r = .d (f x y z)
section
variable {M : Type} {R : MR M} {K : PySem.W.Frag} {E : XK} {XP : Addr → M → Prop} {ρ : List Sl} {m : M}
theorem r1d {f : PyData → PyData} {x y : PyData} (h : y = f x) : R1 f [x] (.d y) ∧ isDo (.d y) := ⟨fun z e => by cases e; rw [h], True.intro⟩
theorem r2d {f : PyData → PyData → PyData} {x y z : PyData} (h : z = f x y) : R2' f [x, y] (.d z) ∧ isDo (.d z) := ⟨fun _ _ e => by cases e; rw [h], True.intro⟩
theorem r3d {f : PyData → PyData → PyData → PyData} {x y z u : PyData} (h : u = f x y z) : R3 f [x, y, z] (.d u) ∧ isDo (.d u) := ⟨fun _ _ _ e => by cases e; rw [h], True.intro⟩
theorem ws_norm {ρ' : List Sl} {i : Nat} {s : Sl} {t : TS} {nx : List Sl → M → Prop} {rt : Rk → M → Prop} {bk ct : List Sl → M → Prop} (e : ρ.set i s = ρ') (h : WS R K E XP ρ' m t nx rt bk ct) : WS R K E XP (ρ.set i s) m t nx rt bk ct := by rw [e]; exact h
/-- the call of a def of data whose answer is a function -/
theorem call1 {f : PyData → PyData} {x : PyData} {k : Rk → M → Prop} (h : k (.d (f x)) m) : ∀ r, R1 f ([x] ++ ([] : List V).map sc) r → k r m := fun r hr => by rw [hr x rfl]; exact h
theorem call2 {f : PyData → PyData → PyData} {x y : PyData} {k : Rk → M → Prop} (h : k (.d (f x y)) m) : ∀ r, R2' f ([x, y] ++ ([] : List V).map sc) r → k r m := fun r hr => by rw [hr x y rfl]; exact h
theorem call3 {f : PyData → PyData → PyData → PyData} {x y z : PyData} {k : Rk → M → Prop} (h : k (.d (f x y z)) m) : ∀ r, R3 f ([x, y, z] ++ ([] : List V).map sc) r → k r m := fun r hr => by rw [hr x y z rfl]; exact h
theorem ifB {b : Bool} {A C : Prop} (h : b = true → A) (g : b = false → C) : (b = true → A) ∧ (b = false → C) := ⟨h, g⟩
end
/-! ## more readings -/
theorem hu65 {k : Nat} {A : Around} (h : Room k A) : A.units + 65 < cLine := by have := h.un; omega
def rGtS : R2 := fun x y H Q => ∃ i j, x = .str i ∧ y = .str j ∧ Q (.bl (decide (j.cps.toList < i.cps.toList))) H
theorem op_gtS {X : Cx} : OpR X (compareOp .Gt) rGtS := op_gt_str
def rLeS : R2 := fun x y H Q => ∃ i j, x = .str i ∧ y = .str j ∧ Q (.bl !decide (j.cps.toList < i.cps.toList)) H
theorem op_leS {X : Cx} : OpR X (compareOp .LtE) rLeS := op_le_str
def rGeS : R2 := fun x y H Q => ∃ i j, x = .str i ∧ y = .str j ∧ Q (.bl !decide (i.cps.toList < j.cps.toList)) H
theorem op_geS {X : Cx} : OpR X (compareOp .GtE) rGeS := op_ge_str
def rNotInS1 : R2 := fun x y H Q => ∃ c z, x = .str ⟨#[c]⟩ ∧ y = .str z ∧ Q (.bl !decide (c ∈ z.cps.toList)) H
theorem op_notInS1 {X : Cx} : OpR X (compareOp .NotIn) rNotInS1 := op_notIn_sign
def rOrd : List V → Hp → VK → Prop := fun xs H Q => ∃ x, xs = [.str x] ∧ x.length = 1 ∧ Q (.int (x.cps.getD 0 0 : Nat)) H
theorem call_ordN {X : Cx} : CallR X (.builtin "ord") rOrd := call_ord
def rAbs : List V → Hp → VK → Prop := fun xs H Q => ∃ i, xs = [.int i] ∧ Q (.int (if i < 0 then -i else i)) H
theorem call_absN {X : Cx} : CallR X (.builtin "abs") rAbs := call_abs
def tJ (ts : List TE) : TE := fun σ H Q => tJs ts Str.empty σ H fun out H1 => Q (.str out) H1
theorem pe_joinedN {X : Cx} {v1 v2 : Expr} {rest : List Expr} {ts : List TE} {pos : Pos} (h : PJ X (v1 :: v2 :: rest) ts) : PE X (.JoinedStr (v1 :: v2 :: rest) pos) (tJ ts) := pe_joined h
section
variable {M : Type} {R : MR M} {K : PySem.W.Frag} {E : XK} {XP : Addr → M → Prop} {ρ : List Sl} {m : M} {k : Rk → M → Prop} {ta tb tc te : TE} {ts : List TE}
theorem opP_gtS {i j : Str} (hk : k (.d (.bool (decide (j.cps.toList < i.cps.toList)))) m) : OpP R K E XP ρ m rGtS (.d (.str i)) (.d (.str j)) k :=
  opP_sc (v := .bl _) rfl (fun _ ra rb Q q => ⟨i, j, dq_str ra, dq_str rb, q⟩) hk
theorem opP_leS {i j : Str} (hk : k (.d (.bool !decide (j.cps.toList < i.cps.toList))) m) : OpP R K E XP ρ m rLeS (.d (.str i)) (.d (.str j)) k :=
  opP_sc (v := .bl _) rfl (fun _ ra rb Q q => ⟨i, j, dq_str ra, dq_str rb, q⟩) hk
theorem opP_geS {i j : Str} (hk : k (.d (.bool !decide (i.cps.toList < j.cps.toList))) m) : OpP R K E XP ρ m rGeS (.d (.str i)) (.d (.str j)) k :=
  opP_sc (v := .bl _) rfl (fun _ ra rb Q q => ⟨i, j, dq_str ra, dq_str rb, q⟩) hk
theorem opP_notInS1 {c : Nat} {z : Str} (hk : k (.d (.bool !decide (c ∈ z.cps.toList))) m) : OpP R K E XP ρ m rNotInS1 (.d (.str ⟨#[c]⟩)) (.d (.str z)) k :=
  opP_sc (v := .bl _) rfl (fun _ ra rb Q q => ⟨c, z, dq_str ra, dq_str rb, q⟩) hk
theorem cbP_ord {c : Nat} (hk : k (.d (.int (c : Int))) m) : CbP R K E XP ρ m rOrd [.d (.str ⟨#[c]⟩)] k :=
  cbP_sc (v := .int (c : Int)) rfl (fun s ra Q q => by
    obtain ⟨v, rfl, r1⟩ := relA1 ra
    cases dq_str r1
    exact ⟨⟨#[c]⟩, rfl, rfl, q⟩) hk
theorem cbP_abs {i : Int} (hk : k (.d (.int (if i < 0 then -i else i))) m) : CbP R K E XP ρ m rAbs [.d (.int i)] k :=
  cbP_sc (v := .int _) rfl (fun s ra Q q => by
    obtain ⟨v, rfl, r1⟩ := relA1 ra
    exact ⟨i, by rw [dq_int r1], q⟩) hk
theorem we_neg (h : WE R K E XP ρ m te fun r m1 => ∃ i, r = .d (.int i) ∧ k (.d (.int (-i))) m1) : WE R K E XP ρ m (tUn (rU fun i => .int (-i)) te) k := by with_unfolding_all exact (fun D Q q =>
  h D _ fun v r m1 F1 H1 B1 ⟨i, e, k1⟩ D1 q1 r1 => by
    subst e
    exact ⟨i, dq_int r1, q _ _ m1 F1 H1 B1 k1 D1 q1 (.int _)⟩)
@[irreducible] def WJ (R : MR M) (K : PySem.W.Frag) (E : XK) (XP : Addr → M → Prop) (ρ : List Sl) (m : M) (ts : List TE) (o : Str) (k : Str → M → Prop) : Prop := ∀ {F0 H0 B0 F H B σ}, DS R K E XP F0 H0 B0 F H B σ ρ m → ∀ Q : Str → Hp → Prop, (∀ z m' F' H' B', k z m' → DS R K E XP F0 H0 B0 F' H' B' σ ρ m' → Stq F H B F' H' B' → Q z H') → tJs ts o σ H Q
theorem wj_nil {o : Str} {k : Str → M → Prop} (hk : k o m) : WJ R K E XP ρ m [] o k := by with_unfolding_all exact (fun D Q q => by
  simp only [L2.tJs]
  exact q _ m _ _ _ hk D (.refl D.st.s))
theorem wj_cons {o : Str} {k : Str → M → Prop} (h : WE R K E XP ρ m te fun r m1 => ∃ y, r = .d (.str y) ∧ (o ++ y).length ≤ sizeLine ∧ WJ R K E XP ρ m1 ts (o ++ y) k) : WJ R K E XP ρ m (te :: ts) o k := by with_unfolding_all exact (fun D Q q => by
  simp only [L2.tJs]
  refine h D _ fun v r m1 F1 H1 B1 ⟨y, e, hl, k1⟩ D1 q1 r1 => ?_
  subst e
  exact ⟨y, dq_str r1, hl, k1 D1 Q fun z m' F' H' B' k3 D3 q3 => q z m' F' H' B' k3 D3 (q1.trans q3)⟩)
theorem we_joined (h : WJ R K E XP ρ m ts Str.empty fun z m1 => k (.d (.str z)) m1) : WE R K E XP ρ m (tJ ts) k := by with_unfolding_all exact (fun D Q q =>
  h D _ fun z m' F' H' B' k3 D3 q3 => q _ _ m' F' H' B' k3 D3 q3 (.str _))
theorem we_fmtI (h : WE R K E XP ρ m te fun r m1 => ∃ i, r = .d (.int i) ∧ i.natAbs.log2 < 1920 ∧ k (.d (.str (Str.ofString (toString i)))) m1) : WE R K E XP ρ m (tFmt te) k := by with_unfolding_all exact (fun D Q q =>
  h D _ fun v r m1 F1 H1 B1 ⟨i, e, hl, k1⟩ D1 q1 r1 => by
    subst e
    exact .inr ⟨i, dq_int r1, hl, q _ _ m1 F1 H1 B1 k1 D1 q1 (.str _)⟩)
theorem we_fmtS (h : WE R K E XP ρ m te fun r m1 => ∃ y, r = .d (.str y) ∧ y.length ≤ sizeLine ∧ k (.d (.str y)) m1) : WE R K E XP ρ m (tFmt te) k := by with_unfolding_all exact (fun D Q q =>
  h D _ fun v r m1 F1 H1 B1 ⟨y, e, hl, k1⟩ D1 q1 r1 => by
    subst e
    exact .inl ⟨y, dq_str r1, hl, q _ _ m1 F1 H1 B1 k1 D1 q1 (.str _)⟩)
end
section
variable {M : Type} {R : MR M} {K : PySem.W.Frag} {E : XK} {XP : Addr → M → Prop} {ρ : List Sl} {m : M}
theorem we_ty {t : String} {k : Rk → M → Prop} (hk : k (.v (.ty t)) m) : WE R K E XP ρ m (tC (.ty t)) k := we_cV hk
theorem ws_eq {ρ' : List Sl} {t : TS} {nx : List Sl → M → Prop} {rt : Rk → M → Prop} {bk ct : List Sl → M → Prop} (e : ρ = ρ') (h : WS R K E XP ρ' m t nx rt bk ct) : WS R K E XP ρ m t nx rt bk ct := by rw [e]; exact h
theorem wg_eq {ρ' : List Sl} {g : TG} {d : PyData} {k : List Sl → Prop} (e : ρ = ρ') (h : WG R K E XP ρ' m g d k) : WG R K E XP ρ m g d k := by rw [e]; exact h
theorem wt_eq {ρ' : List Sl} {t : TT} {k : Bool → M → Prop} (e : ρ = ρ') (h : WT R K E XP ρ' m t k) : WT R K E XP ρ m t k := by rw [e]; exact h
end
/-! isinstance by kinds -/
def isBoolD : PyData → Bool
  | .bool _ => true
  | _ => false
theorem isK_Bool (d : PyData) : isKD (kindD d) "bool" = isBoolD d := by cases d <;> first | rfl | (unfold kindD isKD isBoolD; decide)
def isIntD : PyData → Bool
  | .int _ => true
  | .bool _ => true
  | _ => false
theorem isK_Int (d : PyData) : isKD (kindD d) "int" = isIntD d := by cases d <;> first | rfl | (unfold kindD isKD isIntD; decide)
def isStrD : PyData → Bool
  | .str _ => true
  | _ => false
theorem isK_Str (d : PyData) : isKD (kindD d) "str" = isStrD d := by cases d <;> first | rfl | (unfold kindD isKD isStrD; decide)
def isTupD : PyData → Bool
  | .tuple _ => true
  | _ => false
theorem isK_Tup (d : PyData) : isKD (kindD d) "tuple" = isTupD d := by cases d <;> first | rfl | (unfold kindD isKD isTupD; decide)
def isLstD : PyData → Bool
  | .list _ => true
  | _ => false
theorem isK_Lst (d : PyData) : isKD (kindD d) "list" = isLstD d := by cases d <;> first | rfl | (unfold kindD isKD isLstD; decide)
section
variable {M : Type} {R : MR M} {K : PySem.W.Frag} {E : XK} {XP : Addr → M → Prop} {ρ : List Sl} {m : M} {k : Rk → M → Prop}
theorem cbP_isB {a : Rk} {d : PyData} (ha : asD a = some d) (hk : k (.d (.bool (isBoolD d))) m) : CbP R K E XP ρ m (rIsi K) [a, .v (.ty "bool")] k := cbP_isi ha (by decide) (by rw [isK_Bool]; exact hk)
theorem cbP_isI {a : Rk} {d : PyData} (ha : asD a = some d) (hk : k (.d (.bool (isIntD d))) m) : CbP R K E XP ρ m (rIsi K) [a, .v (.ty "int")] k := cbP_isi ha (by decide) (by rw [isK_Int]; exact hk)
theorem cbP_isS {a : Rk} {d : PyData} (ha : asD a = some d) (hk : k (.d (.bool (isStrD d))) m) : CbP R K E XP ρ m (rIsi K) [a, .v (.ty "str")] k := cbP_isi ha (by decide) (by rw [isK_Str]; exact hk)
theorem cbP_isT {a : Rk} {d : PyData} (ha : asD a = some d) (hk : k (.d (.bool (isTupD d))) m) : CbP R K E XP ρ m (rIsi K) [a, .v (.ty "tuple")] k := cbP_isi ha (by decide) (by rw [isK_Tup]; exact hk)
theorem cbP_isL {a : Rk} {d : PyData} (ha : asD a = some d) (hk : k (.d (.bool (isLstD d))) m) : CbP R K E XP ρ m (rIsi K) [a, .v (.ty "list")] k := cbP_isi ha (by decide) (by rw [isK_Lst]; exact hk)
end
def truR (r : Rk) : Option Bool := (asD r).bind truD
section
variable {M : Type} {R : MR M} {K : PySem.W.Frag} {E : XK} {XP : Addr → M → Prop} {ρ : List Sl} {m : M}
theorem wt_truR {te : TE} {k : Bool → M → Prop} (h : WE R K E XP ρ m te fun r m1 => ∃ b, truR r = some b ∧ k b m1) : WT R K E XP ρ m (tTru K te) k := wt_tru (by
  unfold WE at h ⊢
  intro F0 H0 B0 F H B σ D Q q
  exact h D Q fun v r m' F' H' B' ⟨b, e, hk⟩ => q v r m' F' H' B' (by
    unfold truR at e
    cases ha : asD r with
    | none => rw [ha] at e; cases e
    | some d => rw [ha] at e; exact ⟨d, b, ha, e, hk⟩))
end
/-! ## comprehensions by a function -/
theorem ifp {p A B : Prop} [Decidable p] (h : p → A) (g : ¬ p → B) : (decide p = true → A) ∧ (decide p = false → B) := ⟨fun e => h (of_decide_eq_true e), fun e => g (of_decide_eq_false e)⟩
theorem ifq {p A B : Prop} [Decidable p] (h : ¬ p → A) (g : p → B) : (decide p = false → A) ∧ (decide p = true → B) := ⟨fun e => h (of_decide_eq_false e), fun e => g (of_decide_eq_true e)⟩
theorem ifnp {p A B : Prop} [Decidable p] (h : ¬ p → A) (g : p → B) : ((!decide p) = true → A) ∧ ((!decide p) = false → B) := ⟨fun e => h (by simpa using e), fun e => g (by simpa using e)⟩
theorem ifnq {p A B : Prop} [Decidable p] (h : p → A) (g : ¬ p → B) : ((!decide p) = false → A) ∧ ((!decide p) = true → B) := ⟨fun e => h (by simpa using e), fun e => g (by simpa using e)⟩
theorem ifb {b : Bool} {A B : Prop} (h : b = true → A) (g : b = false → B) : (b = true → A) ∧ (b = false → B) := ⟨h, g⟩
theorem ifbq {b : Bool} {A B : Prop} (h : b = false → A) (g : b = true → B) : (b = false → A) ∧ (b = true → B) := ⟨h, g⟩
theorem ifnb {b : Bool} {A B : Prop} (h : b = false → A) (g : b = true → B) : ((!b) = true → A) ∧ ((!b) = false → B) := ⟨fun e => h (by simpa using e), fun e => g (by simpa using e)⟩
theorem ifnbq {b : Bool} {A B : Prop} (h : b = true → A) (g : b = false → B) : ((!b) = false → A) ∧ ((!b) = true → B) := ⟨fun e => h (by simpa using e), fun e => g (by simpa using e)⟩
section
variable {M : Type} {R : MR M} {K : PySem.W.Frag} {E : XK} {XP : Addr → M → Prop} {ρ : List Sl} {m : M} {k : Rk → M → Prop} {ta tb tc te : TE} {tr : TA}
theorem wt_yes {k : Bool → M → Prop} (hk : k true m) : WT R K E XP ρ m tYes k := by with_unfolding_all exact (fun D Q q => q true m _ _ _ hk D (.refl D.st.s))
theorem take_succ_app {α : Type} {xs : List α} {i : Nat} {x : α} (h : xs[i]? = some x) : xs.take (i + 1) = xs.take i ++ [x] := by
  rw [List.take_succ, h]; rfl
theorem WI.mono {wi : TI} {k k' : List PyData → M → Prop} (h : WI R K E XP ρ m wi k) (g : ∀ xs m, k xs m → k' xs m) : WI R K E XP ρ m wi k' := by with_unfolding_all exact (fun D Q q => h D Q fun J xs m' F' H' B' hk => q J xs m' F' H' B' (g xs m' hk))
theorem WT.mono {t : TT} {k k' : Bool → M → Prop} (h : WT R K E XP ρ m t k) (g : ∀ b m, k b m → k' b m) : WT R K E XP ρ m t k' := by with_unfolding_all exact (fun D Q q => h D Q fun b m' F' H' B' hk => q b m' F' H' B' (g b m' hk))
theorem WA.mono {t : TA} {k k' : List Rk → M → Prop} (h : WA R K E XP ρ m t k) (g : ∀ b m, k b m → k' b m) : WA R K E XP ρ m t k' := by with_unfolding_all exact (fun D Q q => h D Q fun vs b m' F' H' B' hk => q vs b m' F' H' B' (g b m' hk))
theorem WE.mono {t : TE} {k k' : Rk → M → Prop} (h : WE R K E XP ρ m t k) (g : ∀ b m, k b m → k' b m) : WE R K E XP ρ m t k' := by with_unfolding_all exact (fun D Q q => h D Q fun vs b m' F' H' B' hk => q vs b m' F' H' B' (g b m' hk))
theorem WG.mono {g : TG} {d : PyData} {k k' : List Sl → Prop} (h : WG R K E XP ρ m g d k) (i : ∀ r, k r → k' r) : WG R K E XP ρ m g d k' := by with_unfolding_all exact (fun D hd Q q => h D hd Q fun σ' ρ' hk => q σ' ρ' (i ρ' hk))
end
section
variable {M : Type} {R : MR M} {K : PySem.W.Frag} {E : XK} {XP : Addr → M → Prop} {ρ : List Sl} {m : M} {k : Rk → M → Prop} {ta tb tc te : TE} {tr : TA}
/-- [f(x) for x in xs if t(x)] -/
theorem we_lcF {wi : TI} {g : TG} {tt : TT} {vs : List Nat} {ρ0 : List Sl} (hsl : Wipes g vs) (e0 : wipeS ρ vs = ρ0) (h : WI R K E XP ρ m wi fun xs m1 => ∃ (f : PyData → PyData) (t : PyData → Bool), xs.length ≤ 90000 ∧
    (∀ x ∈ xs, WG R K E XP ρ0 m1 g x fun ρ1 => WT R K E XP ρ1 m1 tt fun b m2 => m2 = m1 ∧ b = t x ∧
      (b = true → WA R K E XP ρ1 m1 (tCons te tNil) fun rs m3 => m3 = m1 ∧ DLo rs = some [f x])) ∧
    k (.o ((xs.filter t).map f)) m1) : WE R K E XP ρ m (tLc wi g tt te vs) k :=
  we_lc hsl <| WI.mono h fun xs m1 ⟨f, t, hl, step, hk⟩ => ⟨fun i ys => ys = ((xs.take i).filter t).map f, rfl, fun i x ys hx (hI : ys = ((xs.take i).filter t).map f) => by
    have hm := List.mem_of_getElem? hx
    have hi := (List.getElem?_eq_some_iff.mp hx).1
    have et := take_succ_app hx
    rw [e0]
    refine WG.mono (step x hm) fun ρ1 hk2 => WT.mono hk2 fun b m2 ⟨z1, z2, z3⟩ => ⟨z1, fun hb => WA.mono (z3 hb) fun rs m3 ⟨y1, y2⟩ => ⟨y1, f x, y2, ?_, ?_⟩, fun hb => ?_⟩
    · rw [hI, List.length_map]
      have := List.length_filter_le t (xs.take i)
      rw [List.length_take] at this
      omega
    · show ys ++ [f x] = ((xs.take (i + 1)).filter t).map f
      rw [et, List.filter_append, List.map_append, hI, List.filter_cons, ← z2, hb]; rfl
    · show ys = ((xs.take (i + 1)).filter t).map f
      rw [et, List.filter_append, List.map_append, hI, List.filter_cons, ← z2, hb]; simp, fun ys (hI : ys = ((xs.take xs.length).filter t).map f) => by
    have hI' : ys = ((xs.take xs.length).filter t).map f := hI
    rw [List.take_length] at hI'
    rw [hI']; exact hk⟩
theorem we_lcM {wi : TI} {g : TG} {vs : List Nat} {ρ0 : List Sl} (hsl : Wipes g vs) (e0 : wipeS ρ vs = ρ0) (h : WI R K E XP ρ m wi fun xs m1 => ∃ (f : PyData → PyData), xs.length ≤ 90000 ∧
    (∀ x ∈ xs, WG R K E XP ρ0 m1 g x fun ρ1 => WA R K E XP ρ1 m1 (tCons te tNil) fun rs m3 => m3 = m1 ∧ DLo rs = some [f x]) ∧
    k (.o (xs.map f)) m1) : WE R K E XP ρ m (tLc wi g tYes te vs) k :=
  we_lcF hsl e0 <| WI.mono h fun xs m1 ⟨f, hl, step, hk⟩ => ⟨f, fun _ => true, hl, fun x hx => WG.mono (step x hx) fun ρ1 hk2 => wt_yes ⟨rfl, rfl, fun _ => hk2⟩, by
    have : xs.filter (fun _ => true) = xs := List.filter_eq_self.mpr fun _ _ => rfl
    rw [this]; exact hk⟩
end
/-! ## a dict of the module; the call of what a local name holds -/
def rKd (K : PySem.W.Frag) (d : Addr) : R2 := fun x y H Q => ∃ (z : Str) (u0 : Value) (v0 : V), x = V.ref d ∧ y = V.str z ∧ PySem.W.nsIn K d z = some (some u0) ∧ L2.RelV v0 u0 ∧ Q v0 H
theorem ix_kd {X : Cx} {d : Addr} {es : Array DictEntry} {n : Nat} (D : KDict X.K X.w d es n) : IxR X (rKd X.K d) := fun value slice pins s σ H x y v u Q I rx ry h hs => by
  have h0 := h
  obtain ⟨z, u0, v0, rfl, rfl, e, r, q⟩ := h
  have ho := I.kIn _ _ D.at_
  cases (show v = .ref d from rx)
  exact tail_any ⟨_, ho, rfl⟩ F.slot_dict_getitem.lookup (L2.op_item_kd D pins s σ H _ _ _ _ Q I rx ry h0) hs
theorem ixK_kd {K : PySem.W.Frag} {X : Cx} {d : Addr} {es : Array DictEntry} {n : Nat} (h : X.K = K) (D : KDict K X.w d es n) : IxR X (rKd K d) := by subst h; exact ix_kd D
section
variable {M : Type} {R : MR M} {K : PySem.W.Frag} {E : XK} {XP : Addr → M → Prop} {ρ : List Sl} {m : M} {k : Rk → M → Prop} {ta tb tc te : TE} {tr : TA}
theorem opP_kd {d f : Addr} {z : Str} (h : PySem.W.nsIn K d z = some (some (.ref f))) (hk : k (.v (.ref f)) m) : OpP R K E XP ρ m (rKd K d) (.v (.ref d)) (.d (.str z)) k := by
  unfold OpP
  intro F0 H0 B0 F H B σ Hs x y D ra rb Q q
  cases (show x = .ref d from ra)
  cases dq_str rb
  exact ⟨z, _, .ref f, rfl, rfl, h, rfl, q _ _ m _ _ _ hk D (.refl D.st.s) rfl⟩
theorem we_callL {pre : List PyData → Prop} {post : List PyData → Rk → Prop} {i : Nat} {f : Addr} {E' : XK} (hi : ρ[i]? = some (.v (.ref f))) (h : WA R K E XP ρ m tr fun rs m1 => ∃ ds, DLo rs = some ds ∧ pre ds ∧ ∀ r, post ds r → k r m1) : WE R K E XP ρ m (tCallL i f (spP K pre post) [] E' tr) k := by
  have h2 : WE R K E XP ρ m (tCall (spP K pre post) [] E' tr) k := we_callP (dvs := []) (WA.mono h fun rs m1 ⟨ds, e, h1, h2⟩ => ⟨ds, e, by simpa using h1, by simpa using h2⟩)
  unfold WE at h2 ⊢
  intro F0 H0 B0 F H B σ D Q q
  obtain ⟨w, h1, h3⟩ := D.s i _ hi
  cases (show w = some (.ref f) from h3)
  exact ⟨h1, h2 D Q q⟩
end
/-- as okP, the derivation chosen by the arguments -/
theorem okPd {P : Program} {w : World} {K : PySem.W.Frag} {mg : Str → Option Value} {base : Heap} {x qual : Str} {st : Stmt} {f : Addr} {fd : FuncData} {N ps : List Str} {k : Nat} {pre : List PyData → Prop} {post : List PyData → Rk → Prop}
    (F : Fun K x qual st f fd) (S : FnScope N ps (defScope st)) (n : Nat) (hn : N.length = ps.length + n) (len : ∀ ds, pre ds → ds.length = ps.length)
    (hb : ∀ (cdv : Value) (A : Around) (outer : List Env) (s : Shared) (H : Hp) (E : XK), Room k (A.deeper (envOfC qual (defScope st) s.heap.objs.size f cdv)) →
      ∀ ds, pre ds → ∃ t, PSs (cxOf CX0 P w K mg base N qual (defScope st) f cdv A outer s H E).nox (defBody st) t ∧
        WS noM K E (fun _ _ => False) (ds.map Sl.d ++ List.replicate n Sl.u) () t (fun _ _ => post ds (.d .none)) (fun r _ => post ds r ∧ isDo r) (fun _ _ => False) (fun _ _ => False)) : FnOk P w K mg base CX0 (k + 1) f fd ps (spP K pre post) :=
  F.ok S (fun vs H Q E ⟨ds, B, hd, _, hp, _⟩ => (dqa_len hd).trans (len ds hp)) fun cdv A outer s H vs Q E hr h => by
    obtain ⟨ds, B, hd, hB, hp, q⟩ := h
    obtain ⟨t, h1, h2⟩ := hb cdv A outer s H E hr ds hp
    refine ⟨t, h1, run_P (pre := fun es => es = ds) (post := post) ⟨ds, B, hd, hB, rfl, q⟩ n ?_ fun es he => by subst he; exact h2⟩
    rw [dqa_len hd, len ds hp, hn]
    omega
def rInT (K : PySem.W.Frag) : R2 := fun x y H Q => ∃ d ds, Dp K H x d ∧ Dp K H y (.tuple ds) ∧ SeqAt.shaped d = true ∧ SeqAt.shaped (.tuple ds) = true ∧ Q (.bl (ds.any fun z => PyData.eqv z d)) H
def rNotInT (K : PySem.W.Frag) : R2 := fun x y H Q => ∃ d ds, Dp K H x d ∧ Dp K H y (.tuple ds) ∧ SeqAt.shaped d = true ∧ SeqAt.shaped (.tuple ds) = true ∧ Q (.bl (!ds.any fun z => PyData.eqv z d)) H
theorem sh_parts {ds : List PyData} (h : SeqAt.shaped (.tuple ds) = true) : PyData.canLayAll0 ds = true := by
  have : (PyData.tuple ds).canLay0 = true := SeqAt.canLay_of_shaped h
  rwa [PyData.canLay0] at this
theorem sh_depth {d : PyData} (h : SeqAt.shaped d = true) : d.depth ≤ 64 := by
  unfold SeqAt.shaped at h
  rw [Bool.and_eq_true] at h
  exact of_decide_eq_true h.2
theorem opK_inT {K : PySem.W.Frag} {X : Cx} (h : X.K = K) (hu : X.A.units + 65 < cLine) : OpR X (compareOp .In) (rInT K) := by
  subst h
  intro pins s σ H x y v u Q I rx ry ⟨d, ds, hd, he, sd, se, q⟩
  obtain ⟨as, r1⟩ := Dp.reads I d x v hd rx
  obtain ⟨bs, r2⟩ := Dp.reads I (.tuple ds) y u he ry
  have := sh_depth sd
  exact SeqAt.in_tuple_reads r2 r1 (sh_parts se) (SeqAt.canLay_of_shaped sd) (by omega) ⟨.bl _, _, I, rfl, q⟩
theorem opK_notInT {K : PySem.W.Frag} {X : Cx} (h : X.K = K) (hu : X.A.units + 65 < cLine) : OpR X (compareOp .NotIn) (rNotInT K) := by
  subst h
  intro pins s σ H x y v u Q I rx ry ⟨d, ds, hd, he, sd, se, q⟩
  obtain ⟨as, r1⟩ := Dp.reads I d x v hd rx
  obtain ⟨bs, r2⟩ := Dp.reads I (.tuple ds) y u he ry
  have := sh_depth sd
  exact SeqAt.notIn_tuple_reads r2 r1 (sh_parts se) (SeqAt.canLay_of_shaped sd) (by omega) ⟨.bl _, _, I, rfl, q⟩
section
variable {M : Type} {R : MR M} {K : PySem.W.Frag} {E : XK} {XP : Addr → M → Prop} {ρ : List Sl} {m : M} {k : Rk → M → Prop} {ta tb tc te : TE} {tr : TA}
theorem opP_inT {a b : Rk} {d : PyData} {ds : List PyData} (ha : asD a = some d) (hb : asD b = some (.tuple ds)) (h1 : SeqAt.shaped d = true) (h2 : SeqAt.shaped (.tuple ds) = true) (hk : k (.d (.bool (ds.any fun z => PyData.eqv z d))) m) : OpP R K E XP ρ m (rInT K) a b k :=
  opP_sc (v := .bl _) rfl (fun s ra rb Q q => ⟨d, ds, rel_asD s ra ha, rel_asD s rb hb, h1, h2, q⟩) hk
theorem opP_notInT {a b : Rk} {d : PyData} {ds : List PyData} (ha : asD a = some d) (hb : asD b = some (.tuple ds)) (h1 : SeqAt.shaped d = true) (h2 : SeqAt.shaped (.tuple ds) = true) (hk : k (.d (.bool (!ds.any fun z => PyData.eqv z d))) m) : OpP R K E XP ρ m (rNotInT K) a b k :=
  opP_sc (v := .bl _) rfl (fun s ra rb Q q => ⟨d, ds, rel_asD s ra ha, rel_asD s rb hb, h1, h2, q⟩) hk
end
/-- data whose texts and tuples are not too long, of at most this depth -/
def okx : Nat → PyData → Bool
  | _, .none => true
  | _, .bool _ => true
  | _, .int _ => true
  | _, .str z => PyData.strOk z && decide (z.length ≤ 100000)
  | n + 1, .list xs => decide (xs.length ≤ 90000) && xs.all (okx n)
  | n + 1, .tuple xs => decide (xs.length ≤ 90000) && xs.all (okx n)
  | _, _ => false
theorem okx_flat : ∀ {n : Nat} {d : PyData}, okx n d = true → Flat n d
  | n, .none, _ => flat_non n
  | n, .bool b, _ => flat_bl n b
  | n, .int i, _ => flat_int n i
  | n, .str z, h => flat_str n z (by unfold okx at h; rw [Bool.and_eq_true] at h; exact h.1)
  | n + 1, .list xs, h => by
    unfold okx at h
    rw [Bool.and_eq_true, List.all_eq_true] at h
    exact flat_list fun d hd => okx_flat (h.2 d hd)
  | n + 1, .tuple xs, h => by
    unfold okx at h
    rw [Bool.and_eq_true, List.all_eq_true] at h
    exact flat_tup fun d hd => okx_flat (h.2 d hd)
  | 0, .list _, h => by unfold okx at h; cases h
  | 0, .tuple _, h => by unfold okx at h; cases h
  | 0, .dict _, h => by unfold okx at h; cases h
  | _ + 1, .dict _, h => by unfold okx at h; cases h
theorem okx_sh {n : Nat} {d : PyData} (h : okx n d = true) (hn : n ≤ 64 := by decide) : SeqAt.shaped d = true := (okx_flat h).sh hn
theorem okx_mono : ∀ {n m : Nat} {d : PyData}, n ≤ m → okx n d = true → okx m d = true
  | _, m, .none, _, _ => by cases m <;> rfl
  | _, m, .bool _, _, _ => by cases m <;> rfl
  | _, m, .int _, _, _ => by cases m <;> rfl
  | n, m, .str _, _, h => by unfold okx at h ⊢; exact h
  | n + 1, m + 1, .list xs, hm, h => by
    unfold okx at h ⊢
    rw [Bool.and_eq_true, List.all_eq_true] at h ⊢
    exact ⟨h.1, fun d hd => okx_mono (Nat.le_of_succ_le_succ hm) (h.2 d hd)⟩
  | n + 1, m + 1, .tuple xs, hm, h => by
    unfold okx at h ⊢
    rw [Bool.and_eq_true, List.all_eq_true] at h ⊢
    exact ⟨h.1, fun d hd => okx_mono (Nat.le_of_succ_le_succ hm) (h.2 d hd)⟩
  | 0, _, .list _, _, h => by unfold okx at h; cases h
  | 0, _, .tuple _, _, h => by unfold okx at h; cases h
  | 0, _, .dict _, _, h => by unfold okx at h; cases h
  | _ + 1, _, .dict _, _, h => by unfold okx at h; cases h
  | _ + 1, 0, .list _, hm, _ => absurd hm (by omega)
  | _ + 1, 0, .tuple _, hm, _ => absurd hm (by omega)
theorem okx_tup {n : Nat} {xs : List PyData} {x : PyData} (h : okx n (.tuple xs) = true) (hx : x ∈ xs) : okx n x = true := by
  cases n with
  | zero => unfold okx at h; cases h
  | succ n =>
    unfold okx at h
    rw [Bool.and_eq_true, List.all_eq_true] at h
    exact okx_mono (by omega) (h.2 x hx)
theorem okx_lst {n : Nat} {xs : List PyData} {x : PyData} (h : okx n (.list xs) = true) (hx : x ∈ xs) : okx n x = true := by
  cases n with
  | zero => unfold okx at h; cases h
  | succ n =>
    unfold okx at h
    rw [Bool.and_eq_true, List.all_eq_true] at h
    exact okx_mono (by omega) (h.2 x hx)
theorem okx_len {n : Nat} {xs : List PyData} (h : okx n (.tuple xs) = true) : xs.length ≤ 90000 := by
  cases n with
  | zero => unfold okx at h; cases h
  | succ n =>
    unfold okx at h
    rw [Bool.and_eq_true] at h
    exact of_decide_eq_true h.1
theorem okx_str {n : Nat} {z : Str} (h : okx n (.str z) = true) : z.length ≤ 100000 ∧ PyData.strOk z = true := by
  unfold okx at h
  rw [Bool.and_eq_true] at h
  exact ⟨of_decide_eq_true h.2, h.1⟩
theorem okx_tup_of {n : Nat} {xs : List PyData} (hl : xs.length ≤ 90000) (h : ∀ x ∈ xs, okx n x = true) : okx (n + 1) (.tuple xs) = true := by
  unfold okx
  rw [Bool.and_eq_true, List.all_eq_true]
  exact ⟨decide_eq_true hl, h⟩
theorem okx_lst_of {n : Nat} {xs : List PyData} (hl : xs.length ≤ 90000) (h : ∀ x ∈ xs, okx n x = true) : okx (n + 1) (.list xs) = true := by
  unfold okx
  rw [Bool.and_eq_true, List.all_eq_true]
  exact ⟨decide_eq_true hl, h⟩
/-! calls of defs of data, by the number of arguments -/
section
variable {M : Type} {R : MR M} {K : PySem.W.Frag} {E : XK} {XP : Addr → M → Prop} {ρ : List Sl} {m : M} {k : Rk → M → Prop} {ta tb tc te : TE} {tr : TA} {E' : XK}
theorem we_call1 {p : PyData → Prop} {f : PyData → PyData} (h : WA R K E XP ρ m tr fun rs m1 => ∃ x, DLo rs = some [x] ∧ p x ∧ k (.d (f x)) m1) : WE R K E XP ρ m (tCall (spP K (P1 p) (R1 f)) [] E' tr) k :=
  we_callP (dvs := []) (WA.mono h fun rs m1 ⟨x, e, h1, h2⟩ => ⟨[x], e, ⟨x, rfl, h1⟩, fun r hr => by rw [hr x rfl]; exact h2⟩)
theorem we_call2 {p : PyData → PyData → Prop} {f : PyData → PyData → PyData} (h : WA R K E XP ρ m tr fun rs m1 => ∃ x y, DLo rs = some [x, y] ∧ p x y ∧ k (.d (f x y)) m1) : WE R K E XP ρ m (tCall (spP K (P2 p) (R2' f)) [] E' tr) k :=
  we_callP (dvs := []) (WA.mono h fun rs m1 ⟨x, y, e, h1, h2⟩ => ⟨[x, y], e, ⟨x, y, rfl, h1⟩, fun r hr => by rw [hr x y rfl]; exact h2⟩)
theorem we_call3 {p : PyData → PyData → PyData → Prop} {f : PyData → PyData → PyData → PyData} (h : WA R K E XP ρ m tr fun rs m1 => ∃ x y z, DLo rs = some [x, y, z] ∧ p x y z ∧ k (.d (f x y z)) m1) : WE R K E XP ρ m (tCall (spP K (P3 p) (R3 f)) [] E' tr) k :=
  we_callP (dvs := []) (WA.mono h fun rs m1 ⟨x, y, z, e, h1, h2⟩ => ⟨[x, y, z], e, ⟨x, y, z, rfl, h1⟩, fun r hr => by rw [hr x y z rfl]; exact h2⟩)
theorem we_callL1 {p : PyData → Prop} {f : PyData → PyData} {i : Nat} {g : Addr} (hi : ρ[i]? = some (.v (.ref g))) (h : WA R K E XP ρ m tr fun rs m1 => ∃ x, DLo rs = some [x] ∧ p x ∧ k (.d (f x)) m1) : WE R K E XP ρ m (tCallL i g (spP K (P1 p) (R1 f)) [] E' tr) k :=
  we_callL hi (WA.mono h fun rs m1 ⟨x, e, h1, h2⟩ => ⟨[x], e, ⟨x, rfl, h1⟩, fun r hr => by rw [hr x rfl]; exact h2⟩)
end
section
variable {M : Type} {R : MR M} {K : PySem.W.Frag} {E : XK} {XP : Addr → M → Prop} {ρ : List Sl} {m : M}
theorem isWS {t nx rt bk ct} (h : WS R K E XP ρ m t nx rt bk ct) : WS R K E XP ρ m t nx rt bk ct := h
theorem isWE {t k} (h : WE R K E XP ρ m t k) : WE R K E XP ρ m t k := h
theorem isWA {t k} (h : WA R K E XP ρ m t k) : WA R K E XP ρ m t k := h
theorem isWT {t k} (h : WT R K E XP ρ m t k) : WT R K E XP ρ m t k := h
theorem isWI {t k} (h : WI R K E XP ρ m t k) : WI R K E XP ρ m t k := h
theorem isWO {t k} (h : WO R K E XP ρ m t k) : WO R K E XP ρ m t k := h
theorem isWJ {t o k} (h : WJ R K E XP ρ m t o k) : WJ R K E XP ρ m t o k := h
theorem isWG {t d k} (h : WG R K E XP ρ m t d k) : WG R K E XP ρ m t d k := h
theorem isWGs {t d k} (h : WGs R K E XP ρ m t d k) : WGs R K E XP ρ m t d k := h
theorem isOp {r a b k} (h : OpP R K E XP ρ m r a b k) : OpP R K E XP ρ m r a b k := h
theorem isCb {r a k} (h : CbP R K E XP ρ m r a k) : CbP R K E XP ρ m r a k := h
theorem isSlp {r a l u k} (h : SlP R K E XP ρ m r a l u k) : SlP R K E XP ρ m r a l u k := h
end
theorem signs_map {α : Type} (z : Str) (f : PyData → α) : (signs z).map f = z.cps.toList.map fun c => f (.str ⟨#[c]⟩) := by
  unfold signs
  rw [List.map_map]
  rfl
theorem sgn_len (z : Str) : (signs z).length = z.length := by
  unfold signs
  rw [List.length_map]
  show z.cps.toList.length = _
  rw [Array.length_toList]
  rfl
theorem signs_mem {z : Str} {x : PyData} (h : x ∈ signs z) : ∃ c, x = .str ⟨#[c]⟩ ∧ c ∈ z.cps.toList := by
  unfold signs at h
  obtain ⟨c, hc, e⟩ := List.mem_map.mp h
  exact ⟨c, e.symm, hc⟩
/-- the one sign of a text -/
def chOf : PyData → Nat
  | .str z => z.cps.toList.getD 0 0
  | _ => 0
theorem chOf_one (c : Nat) : chOf (.str ⟨#[c]⟩) = c := rfl
theorem all_map_id {α : Type} (xs : List α) (g : α → Bool) : (xs.map g).all id = xs.all g := by
  rw [List.all_map]; rfl
/-! results that keep a promise -/
def Q1 (g : PyData → PyData → Prop) : List PyData → Rk → Prop := fun ds r => ∀ x, ds = [x] → ∃ y, r = .d y ∧ g x y
def Q2 (g : PyData → PyData → PyData → Prop) : List PyData → Rk → Prop := fun ds r => ∀ x y, ds = [x, y] → ∃ z, r = .d z ∧ g x y z
def Q3 (g : PyData → PyData → PyData → PyData → Prop) : List PyData → Rk → Prop := fun ds r => ∀ x y z, ds = [x, y, z] → ∃ u, r = .d u ∧ g x y z u
/-- the result is a new list -/
def L1 (g : PyData → List PyData → Prop) : List PyData → Rk → Prop := fun ds r => ∀ x, ds = [x] → ∃ y, r = .o y ∧ g x y
def L2' (g : PyData → PyData → List PyData → Prop) : List PyData → Rk → Prop := fun ds r => ∀ x y, ds = [x, y] → ∃ z, r = .o z ∧ g x y z
def L3 (g : PyData → PyData → PyData → List PyData → Prop) : List PyData → Rk → Prop := fun ds r => ∀ x y z, ds = [x, y, z] → ∃ u, r = .o u ∧ g x y z u
section
variable {M : Type} {R : MR M} {K : PySem.W.Frag} {E : XK} {XP : Addr → M → Prop} {ρ : List Sl} {m : M} {k : Rk → M → Prop} {ta tb tc te : TE} {tr : TA} {E' : XK}
theorem q1d {g : PyData → PyData → Prop} {x y : PyData} (h : g x y) : Q1 g [x] (.d y) ∧ isDo (.d y) := ⟨fun z e => by cases e; exact ⟨y, rfl, h⟩, True.intro⟩
theorem q2d {g : PyData → PyData → PyData → Prop} {x y z : PyData} (h : g x y z) : Q2 g [x, y] (.d z) ∧ isDo (.d z) := ⟨fun _ _ e => by cases e; exact ⟨z, rfl, h⟩, True.intro⟩
theorem q3d {g : PyData → PyData → PyData → PyData → Prop} {x y z u : PyData} (h : g x y z u) : Q3 g [x, y, z] (.d u) ∧ isDo (.d u) := ⟨fun _ _ _ e => by cases e; exact ⟨u, rfl, h⟩, True.intro⟩
theorem l1o {g : PyData → List PyData → Prop} {x : PyData} {y : List PyData} (h : g x y) : L1 g [x] (.o y) ∧ isDo (.o y) := ⟨fun z e => by cases e; exact ⟨y, rfl, h⟩, True.intro⟩
theorem l2o {g : PyData → PyData → List PyData → Prop} {x y : PyData} {z : List PyData} (h : g x y z) : L2' g [x, y] (.o z) ∧ isDo (.o z) := ⟨fun _ _ e => by cases e; exact ⟨z, rfl, h⟩, True.intro⟩
theorem l3o {g : PyData → PyData → PyData → List PyData → Prop} {x y z : PyData} {u : List PyData} (h : g x y z u) : L3 g [x, y, z] (.o u) ∧ isDo (.o u) := ⟨fun _ _ _ e => by cases e; exact ⟨u, rfl, h⟩, True.intro⟩
theorem we_callQ1 {p : PyData → Prop} {g : PyData → PyData → Prop} (h : WA R K E XP ρ m tr fun rs m1 => ∃ x, DLo rs = some [x] ∧ p x ∧ ∀ y, g x y → k (.d y) m1) : WE R K E XP ρ m (tCall (spP K (P1 p) (Q1 g)) [] E' tr) k :=
  we_callP (dvs := []) (WA.mono h fun rs m1 ⟨x, e, h1, h2⟩ => ⟨[x], e, ⟨x, rfl, h1⟩, fun r hr => by obtain ⟨y, rfl, hg⟩ := hr x rfl; exact h2 y hg⟩)
theorem we_callQ2 {p : PyData → PyData → Prop} {g : PyData → PyData → PyData → Prop} (h : WA R K E XP ρ m tr fun rs m1 => ∃ x y, DLo rs = some [x, y] ∧ p x y ∧ ∀ z, g x y z → k (.d z) m1) : WE R K E XP ρ m (tCall (spP K (P2 p) (Q2 g)) [] E' tr) k :=
  we_callP (dvs := []) (WA.mono h fun rs m1 ⟨x, y, e, h1, h2⟩ => ⟨[x, y], e, ⟨x, y, rfl, h1⟩, fun r hr => by obtain ⟨z, rfl, hg⟩ := hr x y rfl; exact h2 z hg⟩)
theorem we_callQ3 {p : PyData → PyData → PyData → Prop} {g : PyData → PyData → PyData → PyData → Prop} (h : WA R K E XP ρ m tr fun rs m1 => ∃ x y z, DLo rs = some [x, y, z] ∧ p x y z ∧ ∀ u, g x y z u → k (.d u) m1) : WE R K E XP ρ m (tCall (spP K (P3 p) (Q3 g)) [] E' tr) k :=
  we_callP (dvs := []) (WA.mono h fun rs m1 ⟨x, y, z, e, h1, h2⟩ => ⟨[x, y, z], e, ⟨x, y, z, rfl, h1⟩, fun r hr => by obtain ⟨u, rfl, hg⟩ := hr x y z rfl; exact h2 u hg⟩)
theorem we_callL1o {p : PyData → Prop} {g : PyData → List PyData → Prop} (h : WA R K E XP ρ m tr fun rs m1 => ∃ x, DLo rs = some [x] ∧ p x ∧ ∀ y, g x y → k (.o y) m1) : WE R K E XP ρ m (tCall (spP K (P1 p) (L1 g)) [] E' tr) k :=
  we_callP (dvs := []) (WA.mono h fun rs m1 ⟨x, e, h1, h2⟩ => ⟨[x], e, ⟨x, rfl, h1⟩, fun r hr => by obtain ⟨y, rfl, hg⟩ := hr x rfl; exact h2 y hg⟩)
theorem we_callL2o {p : PyData → PyData → Prop} {g : PyData → PyData → List PyData → Prop} (h : WA R K E XP ρ m tr fun rs m1 => ∃ x y, DLo rs = some [x, y] ∧ p x y ∧ ∀ z, g x y z → k (.o z) m1) : WE R K E XP ρ m (tCall (spP K (P2 p) (L2' g)) [] E' tr) k :=
  we_callP (dvs := []) (WA.mono h fun rs m1 ⟨x, y, e, h1, h2⟩ => ⟨[x, y], e, ⟨x, y, rfl, h1⟩, fun r hr => by obtain ⟨z, rfl, hg⟩ := hr x y rfl; exact h2 z hg⟩)
theorem we_callL3o {p : PyData → PyData → PyData → Prop} {g : PyData → PyData → PyData → List PyData → Prop} (h : WA R K E XP ρ m tr fun rs m1 => ∃ x y z, DLo rs = some [x, y, z] ∧ p x y z ∧ ∀ u, g x y z u → k (.o u) m1) : WE R K E XP ρ m (tCall (spP K (P3 p) (L3 g)) [] E' tr) k :=
  we_callP (dvs := []) (WA.mono h fun rs m1 ⟨x, y, z, e, h1, h2⟩ => ⟨[x, y, z], e, ⟨x, y, z, rfl, h1⟩, fun r hr => by obtain ⟨u, rfl, hg⟩ := hr x y z rfl; exact h2 u hg⟩)
end
theorem nums_mem {lo : Int} {n : Nat} {x : PyData} (h : x ∈ nums lo n) : ∃ j : Nat, j < n ∧ x = .int (lo + (j : Int)) := by
  unfold nums at h
  obtain ⟨j, hj, e⟩ := List.mem_map.mp h
  exact ⟨j, List.mem_range.mp hj, e.symm⟩
theorem nums_map {α : Type} {lo : Int} {n : Nat} (f : PyData → α) : (nums lo n).map f = (List.range n).map fun j : Nat => f (.int (lo + (j : Int))) := by
  unfold nums
  rw [List.map_map]
  rfl
theorem sgn_joinL : ∀ cs : List Nat, TL.joinL [] (cs.map fun c => [c]) = cs
  | [] => rfl
  | [c] => rfl
  | c :: d :: r => by
    show [c] ++ ([] ++ TL.joinL [] ((d :: r).map fun c => [c])) = _
    rw [sgn_joinL (d :: r)]
    rfl
theorem sgn_join (cs : List Nat) : Txt.join ("" : Str) (cs.map fun c => (⟨#[c]⟩ : Str)) = ⟨cs.toArray⟩ := by
  have h := SX.join_S [] (cs.map fun c => [c])
  rw [sgn_joinL, List.map_map] at h
  have e : ("" : Str) = SX.S [] := by decide +kernel
  rw [e]
  exact h
theorem sgn_sum (cs : List Nat) : ((cs.map fun c => (⟨#[c]⟩ : Str)).map (·.length)).sum = cs.length := by
  induction cs with
  | nil => rfl
  | cons c cs ih => rw [List.map_cons, List.map_cons, List.sum_cons, ih, List.length_cons]; show 1 + _ = _; omega
section
variable {M : Type} {R : MR M} {K : PySem.W.Frag} {E : XK} {XP : Addr → M → Prop} {ρ : List Sl} {m : M} {k : Rk → M → Prop}
theorem opP_pow {i j : Int} (hc : CPow i j) (hk : k (.d (.int (i ^ j.toNat))) m) : OpP R K E XP ρ m (rI CPow fun i j => .int (i ^ j.toNat)) (.d (.int i)) (.d (.int j)) k := opP_ic (C := CPow) (g := fun i j => .int (i ^ j.toNat)) hc hk
end
theorem log_small {i : Int} (h : i.natAbs < 2 ^ 1900) : i.natAbs.log2 < 1920 := by
  by_cases h0 : i.natAbs = 0
  · rw [h0]; decide
  · have := (Nat.log2_lt h0).mpr h
    omega
theorem signs_at {z : Str} {i c : Nat} (hx : (signs z)[i]? = some (.str ⟨#[c]⟩)) : z.cps.toList[i]? = some c := by
  unfold signs at hx
  rw [List.getElem?_map] at hx
  cases h : z.cps.toList[i]? with
  | none => rw [h] at hx; cases hx
  | some d => rw [h] at hx; cases hx; rfl
/-! a text times a number -/
def repS (z : Str) (n : Nat) : Str := ⟨List.foldl (fun x1 x2 => x1 ++ x2) #[] (List.replicate n z.cps)⟩
theorem fold_size {c : Array Nat} : ∀ (n : Nat) (a : Array Nat), (List.foldl (fun x1 x2 => x1 ++ x2) a (List.replicate n c)).size = a.size + n * c.size
  | 0, a => by simp
  | n + 1, a => by
    rw [List.replicate_succ, List.foldl_cons, fold_size n, Array.size_append, Nat.succ_mul]
    omega
theorem repS_len (z : Str) (n : Nat) : (repS z n).length = n * z.length := by
  have h := fold_size (c := z.cps) n #[]
  rw [show (#[] : Array Nat).size = 0 from rfl, Nat.zero_add] at h
  exact h
def rRepS : R2 := fun x y H Q => ∃ z n, x = .str z ∧ y = .int n ∧ 2 ≤ n ∧ n ≤ 100000 ∧ 1 ≤ z.length ∧ z.length ≤ 100 ∧ Q (.str (repS z n.toNat)) H
theorem op_repS {X : Cx} : OpR X (binaryOp .Mult) rRepS := by
  intro pins s σ H x y v u Q I rx ry ⟨z, n, ex, ey, h1, h2, h3, h4, q⟩
  subst ex ey
  obtain ⟨t, rfl⟩ := rx
  obtain ⟨t', rfl⟩ := ry
  have hc : (n == 1 || z.length == 0) = false := by
    rw [Bool.or_eq_false_iff, beq_eq_false_iff_ne, beq_eq_false_iff_ne]
    omega
  refine P.mul_str (by rw [Bool.or_eq_false_iff, decide_eq_false_iff_not, decide_eq_false_iff_not]; omega) (fun _ _ => ?_) (fun _ _ => ?_) ?_
  · have : (100 : Int) ≤ (2 ^ 63 - 1) / n := by
      rw [Int.le_ediv_iff_mul_le (by omega)]
      omega
    omega
  · have : z.length * n.toNat ≤ 100 * 100000 := Nat.mul_le_mul h4 (by omega)
    unfold Builtin.Str.tooLong
    rw [decide_eq_false_iff_not, sizeLine_eq]
    omega
  · rw [if_neg (by omega), if_neg (by rw [hc]; exact Bool.false_ne_true)]
    simp only [Made.post]
    refine ⟨?_, .str (repS z n.toNat), H, I.tok _, ⟨_, rfl⟩, q⟩
    show (repS z n.toNat).length ≤ _
    rw [repS_len, sizeLine_eq]
    have : n.toNat * z.length ≤ 100000 * 100 := Nat.mul_le_mul (by omega) h4
    omega
section
variable {M : Type} {R : MR M} {K : PySem.W.Frag} {E : XK} {XP : Addr → M → Prop} {ρ : List Sl} {m : M} {k : Rk → M → Prop}
theorem opP_repS {z : Str} {n : Int} (hc : 2 ≤ n ∧ n ≤ 100000 ∧ 1 ≤ z.length ∧ z.length ≤ 100) (hk : k (.d (.str (repS z n.toNat))) m) : OpP R K E XP ρ m rRepS (.d (.str z)) (.d (.int n)) k :=
  opP_sc (v := .str _) rfl (fun _ ra rb Q q => ⟨z, n, dq_str ra, dq_int rb, hc.1, hc.2.1, hc.2.2.1, hc.2.2.2, q⟩) hk
end
/-! ## defs that may raise -/
def tLeave (C : Addr) (E : XK) : TS := fun _ _ H => E (.ref C) none H
theorem ps_leave {X : Cx} {E : XK} {e : Expr} {C : Addr} {pos : Pos} (hc : X.calm = true) (tk : Takes X (fun cls d _ H => E cls d H)) (he : PMk X e (fun _ H Q => Q (.ref C) none H)) : PS X (.Raise (some e) none pos) (tLeave C E) := ps_raise hc tk he
theorem ws_leave {M : Type} {R : MR M} {K : PySem.W.Frag} {E : XK} {XP : Addr → M → Prop} {ρ : List Sl} {m : M} {nx bk ct : List Sl → M → Prop} {rt : Rk → M → Prop} {C : Addr} (h : XP C m) : WS R K E XP ρ m (tLeave C E) nx rt bk ct := by
  unfold WS
  intro F0 H0 B0 F H B σ D d _ _ _ _
  exact d.x C m _ _ _ h d.st d.r
def spX (K : PySem.W.Frag) (pre : List PyData → Prop) (post : List PyData → Rk → Prop) (bad : List PyData → Addr → Prop) : Sp := fun vs H Q E => ∃ ds B, DqAll K B vs ds ∧ Same B H ∧ pre ds ∧
  (∀ v r H' B', post ds r → Same H H' → Same B B' → Same B' H' → (∀ x, H x ≠ none → B x = none → B' x = none) → RelP K H H' B' v r → Q v H') ∧ ∀ C H', bad ds C → Same H H' → E (.ref C) none H'
theorem run_X {K : PySem.W.Frag} {E : XK} {pre : List PyData → Prop} {post : List PyData → Rk → Prop} {bad : List PyData → Addr → Prop} {vs : List V} {H : Hp} {Q : VK} {N : List Str} {ts : TS} (h : spX K pre post bad vs H Q E) (n : Nat) (hn : N.length - vs.length = n)
    (body : ∀ ds, pre ds → WS noM K E (fun C _ => bad ds C) (ds.map Sl.d ++ List.replicate n Sl.u) () ts (fun _ _ => post ds (.d .none)) (fun r _ => post ds r ∧ isDo r) (fun _ _ => False) (fun _ _ => False)) :
    ts { nx := fun _ H' => Q .non H', rt := Q } (L2.start N vs) H := by
  obtain ⟨ds, B, hd, hB, hp, q, qx⟩ := h
  have hl := dqa_len hd
  have D0 : DS noM K E (fun C _ => bad ds C) (fun _ => False) H B (fun _ => False) H B (L2.start N vs) (ds.map Sl.d ++ List.replicate n Sl.u) () := by
    refine ⟨by unfold L2.start; simp [hl]; omega, .refl hB, fun _ => id, fun i t ht => ?_, fun i j p xs ys h1 => ?_, fun C _ _ H' _ z st _ => qx C H' z fun x o hx => st.k x o hx id⟩
    · unfold L2.start
      by_cases hi : i < ds.length
      · rw [List.getElem?_append_left (by rw [List.length_map]; exact hi), List.getElem?_map, List.getElem?_eq_getElem hi] at ht
        cases ht
        obtain ⟨v, h1, h2⟩ := dqa_at hd (List.getElem?_eq_getElem hi)
        refine ⟨some v, ?_, v, rfl, h2⟩
        rw [List.getElem?_append_left (by rw [List.length_map]; omega), List.getElem?_map, h1]
        rfl
      · rw [List.getElem?_append_right (by rw [List.length_map]; omega), List.getElem?_replicate] at ht
        split at ht
        · next hc =>
          cases ht
          rw [List.length_map] at hc
          refine ⟨none, ?_, True.intro⟩
          rw [List.getElem?_append_right (by rw [List.length_map]; omega), List.getElem?_replicate, if_pos (by rw [List.length_map]; omega)]
        · cases ht
    · have := List.mem_of_getElem? h1
      rcases List.mem_append.mp this with z | z
      · obtain ⟨x, _, e⟩ := List.mem_map.mp z; cases e
      · have := (List.mem_replicate.mp z).2; cases this
  have fin : ∀ {v r F' H' B'}, (post ds r ∧ isDo r) → Stq (fun _ => False) H B F' H' B' → (noM.rel () F' H' B') → RelR K H F' H' B' v r → Q v H' := fun {v r F' H' B'} hr st hF rel =>
    q v r H' B' hr.1 (fun x o hx => st.k x o hx id) st.b st.s st.f (by
      cases r with
      | d x => exact rel
      | o xs => obtain ⟨p, us, e, g1, g2, _, g4, g5⟩ := rel; exact ⟨p, us, e, g1, g2, g4, g5⟩
      | l xs => exact hr.2.elim
      | v x => exact hr.2.elim
      | c x => exact hr.2.elim)
  have hb := body ds hp
  unfold WS at hb
  exact hb _ D0 (fun hk D' _ => fin ⟨hk, True.intro⟩ D'.st D'.r .non) (fun hk st hF rel => fin hk st hF rel) (fun z => z.elim) (fun z => z.elim)
theorem okX {P : Program} {w : World} {K : PySem.W.Frag} {mg : Str → Option Value} {base : Heap} {x qual : Str} {st : Stmt} {f : Addr} {fd : FuncData} {N ps : List Str} {k : Nat} {pre : List PyData → Prop} {post : List PyData → Rk → Prop} {bad : List PyData → Addr → Prop}
    (F : Fun K x qual st f fd) (S : FnScope N ps (defScope st)) (n : Nat) (hn : N.length = ps.length + n) (len : ∀ ds, pre ds → ds.length = ps.length)
    (hb : ∀ (cdv : Value) (A : Around) (outer : List Env) (s : Shared) (H : Hp) (E : XK), Room k (A.deeper (envOfC qual (defScope st) s.heap.objs.size f cdv)) →
      ∃ t, PSs (cxOf (L2.CX P w) P w K mg base N qual (defScope st) f cdv A outer s H E) (defBody st) t ∧
        ∀ ds, pre ds → WS noM K E (fun C _ => bad ds C) (ds.map Sl.d ++ List.replicate n Sl.u) () t (fun _ _ => post ds (.d .none)) (fun r _ => post ds r ∧ isDo r) (fun _ _ => False) (fun _ _ => False)) : FnOk P w K mg base (L2.CX P w) (k + 1) f fd ps (spX K pre post bad) :=
  F.okX S (fun vs H Q E ⟨ds, B, hd, _, hp, _⟩ => (dqa_len hd).trans (len ds hp)) fun cdv A outer s H vs Q E hr h => by
    obtain ⟨t, h1, h2⟩ := hb cdv A outer s H E hr
    refine ⟨t, h1, run_X h n ?_ fun ds hp => h2 ds hp⟩
    obtain ⟨ds, B, hd, _, hp, _⟩ := h
    rw [dqa_len hd, len ds hp, hn]
    omega
theorem ws_monoN {M : Type} {R : MR M} {K : PySem.W.Frag} {E : XK} {XP : Addr → M → Prop} {ρ : List Sl} {m : M} {nx nx' bk ct : List Sl → M → Prop} {rt : Rk → M → Prop} {t : TS} (h : WS R K E XP ρ m t nx rt bk ct) (g : ∀ ρ' m', nx ρ' m' → nx' ρ' m') : WS R K E XP ρ m t nx' rt bk ct := by
  unfold WS at h ⊢
  intro F0 H0 B0 F H B σ D d n r b c
  exact h D d (fun hk D' q => n (g _ _ hk) D' q) r b c
/-- a stop behind a statement -/
theorem ws_mid {M : Type} {R : MR M} {K : PySem.W.Frag} {E : XK} {XP : Addr → M → Prop} {ρ : List Sl} {m : M} {nx bk ct : List Sl → M → Prop} {rt : Rk → M → Prop} {t u : TS} (ρ1 : List Sl) (h : WS R K E XP ρ m t (fun ρ' m' => ρ' = ρ1 ∧ m' = m) rt bk ct) (g : WS R K E XP ρ1 m u nx rt bk ct) : WS R K E XP ρ m (tSeq t u) nx rt bk ct :=
  ws_seq (ws_monoN h fun ρ' m' e => by obtain ⟨rfl, rfl⟩ := e; exact g)
/-- a law's body behind its draws -/
theorem enter_law {K : PySem.W.Frag} {E : XK} {Q : VK} {ts : TS} {H : Hp} {a p : Addr} {ds : List Int} (n : Nat) (hp : H p = some (.lst (ds.map V.int))) (q : ∀ H', Q (.bl true) H')
    (body : WS noM K E (fun _ _ => False) (.u :: .d (.list (ds.map .int)) :: List.replicate n Sl.u) () ts (fun _ _ => False) (fun r _ => r = .d (.bool true)) (fun _ _ => False) (fun _ _ => False)) :
    ts { nx := fun _ H' => Q .non H', rt := Q } (some (.ref a) :: some (.ref p) :: List.replicate n none) H := by
  have hds : ∀ (G : Hp) (ds : List Int), DqAll K G (ds.map V.int) (ds.map .int) := fun G ds => by
    induction ds with
    | nil => exact .nil
    | cons x xs ih => exact .cons (.int x) ih
  have D0 : DS noM K E (fun _ _ => False) (fun _ => False) H H (fun _ => False) H H (some (.ref a) :: some (.ref p) :: List.replicate n none) (.u :: .d (.list (ds.map .int)) :: List.replicate n Sl.u) () := by
    refine ⟨by simp, .refl (Same.refl _), fun _ => id, fun i t ht => ?_, fun i j p xs ys h1 => ?_, fun _ _ _ _ _ z => z.elim⟩
    · match i with
      | 0 => cases ht; exact ⟨_, rfl, True.intro⟩
      | 1 => cases ht; exact ⟨_, rfl, _, rfl, .lst hp (hds _ _)⟩
      | i + 2 =>
        simp only [List.getElem?_cons_succ, List.getElem?_replicate] at ht ⊢
        split at ht
        · next h => cases ht; exact ⟨none, by rw [if_pos h], True.intro⟩
        · cases ht
    · match i with
      | 0 => cases h1
      | 1 => cases h1
      | i + 2 =>
        simp only [List.getElem?_cons_succ, List.getElem?_replicate] at h1
        split at h1 <;> cases h1
  unfold WS at body
  exact body _ D0 (fun z => z.elim) (fun {v r m' F' H' B'} hk st hF rel => by rw [hk] at rel; rw [dq_bl rel]; exact q _) (fun z => z.elim) (fun z => z.elim)
theorem opP_catG {M : Type} {R : MR M} {K : PySem.W.Frag} {E : XK} {XP : Addr → M → Prop} {ρ : List Sl} {m : M} {k : Rk → M → Prop} {a b : Rk} {xs ys : List PyData} (ha : LR a xs) (hb : LR b ys) (hl : xs.length + ys.length ≤ 90000) (hk : ∀ zs, zs = xs ++ ys → k (.o zs) m) : OpP R K E XP ρ m rCat a b k := opP_cat ha hb hl (hk _ rfl)
theorem peK_bm {K : PySem.W.Frag} {X : Cx} {T name id : _} {r : _} {o e : Expr} {es : List Expr} {to : TE} {t : TA} {cpos apos : Pos} (h : X.K = K) (pa : PlainAttrs T) (slot : Slot T name id) (hty : typeOf (.builtin id) = pure (.type "method_descriptor")) (hm : MtR X id r) (ho : PE X o to) (ha : PA X (e :: es) t)
    (hbase : attributeBase o name X.env (eval o X.env) = eval o X.env := by rfl)
    (hfew : ((backTo cpos (starEach (e :: es) X.env)).all (fun x => !x.1) && (backToKw cpos (keywordEach [] X.env)).all (fun x => x.1.isSome)
      && decide ((e :: es).length + ([] : List Keyword).length + (if ([] : List Keyword).isEmpty then 0 else 1) < 30)) = true := by rfl)
    (hline : (apos.endLine == cpos.line) = true := by rfl) (hs : starEach (e :: es) X.env = (false, eval e X.env) :: starEach es X.env := by rfl) (hplain : (backTo cpos (starEach es X.env)).any (·.1) = false := by rfl) :
    PE X (.Call (.Attribute o name apos) (e :: es) [] cpos) (tBM K T r to t) := by
  subst h
  exact pe_bm pa slot hty hm ho ha hbase hfew hline hs hplain
def rIsB : R2 := fun x y H Q => ∃ a b, x = .bl a ∧ y = .bl b ∧ Q (.bl (decide (a = b))) H
def rNotB : R2 := fun x y H Q => ∃ a b, x = .bl a ∧ y = .bl b ∧ Q (.bl (!decide (a = b))) H
theorem op_isB1 {X : Cx} : OpR X (compareOp .Is) rIsB := op_is_bl
theorem op_notB1 {X : Cx} : OpR X (compareOp .IsNot) rNotB := op_isnot_bl
section
variable {M : Type} {R : MR M} {K : PySem.W.Frag} {E : XK} {XP : Addr → M → Prop} {ρ : List Sl} {m : M} {k : Rk → M → Prop}
theorem opP_isB {a b : Bool} (hk : k (.d (.bool (decide (a = b)))) m) : OpP R K E XP ρ m rIsB (.d (.bool a)) (.d (.bool b)) k :=
  opP_sc (v := .bl (decide (a = b))) rfl (fun _ ra rb Q q => ⟨a, b, dq_bl ra, dq_bl rb, q⟩) hk
theorem opP_notB {a b : Bool} (hk : k (.d (.bool (!decide (a = b)))) m) : OpP R K E XP ρ m rNotB (.d (.bool a)) (.d (.bool b)) k :=
  opP_sc (v := .bl (!decide (a = b))) rfl (fun _ ra rb Q q => ⟨a, b, dq_bl ra, dq_bl rb, q⟩) hk
end
theorem opK_repT {K : PySem.W.Frag} {X : Cx} (h : X.K = K) : OpR X (binaryOp .Mult) (rRepT K) := by subst h; exact op_repT
theorem dqa_rep {K : PySem.W.Frag} {H : Hp} {vs : List V} {ds : List PyData} (h : DqAll K H vs ds) : ∀ n : Nat, DqAll K H (List.replicate n vs).flatten (List.replicate n ds).flatten
  | 0 => .nil
  | n + 1 => by rw [List.replicate_succ, List.replicate_succ, List.flatten_cons, List.flatten_cons]; exact dqa_app h (dqa_rep h n)
theorem opP_repT {M : Type} {R : MR M} {K : PySem.W.Frag} {E : XK} {XP : Addr → M → Prop} {ρ : List Sl} {m : M} {k : Rk → M → Prop} {xs : List PyData} {j : Int} (hc : xs ≠ [] ∧ 2 ≤ j ∧ j ≤ 1000 ∧ xs.length ≤ 1000) (hk : k (.d (.tuple (List.replicate j.toNat xs).flatten)) m) : OpP R K E XP ρ m (rRepT K) (.d (.tuple xs)) (.d (.int j)) k := by
  unfold OpP
  intro F0 H0 B0 F H B σ Hs x y D ra rb Q q
  obtain ⟨p, vs, rfl, h1, h2⟩ := dq_tup ra
  have e := dq_int rb
  subst e
  have l1 := dqa_len h2
  exact ⟨p, j, vs, rfl, rfl, sqt_same D.st.s h1, fun z => hc.1 (by rw [z] at l1; exact List.length_eq_zero_iff.mp l1.symm), hc.2.1, hc.2.2.1, by omega, fun p' hp => newD D hp (dqa_rep h2 _) hk q⟩
theorem we_callX {M : Type} {R : MR M} {K : PySem.W.Frag} {E : XK} {XP : Addr → M → Prop} {ρ : List Sl} {m : M} {k : Rk → M → Prop} {tr : TA} {pre : List PyData → Prop} {post : List PyData → Rk → Prop} {bad : List PyData → Addr → Prop} {E' : XK} (h : WA R K E XP ρ m tr fun rs m1 => ∃ ds, DLo rs = some ds ∧ pre ds ∧ (∀ C, ¬ bad ds C) ∧ ∀ r, post ds r → k r m1) : WE R K E XP ρ m (tCall (spX K pre post bad) [] E' tr) k := by
  unfold WE
  intro F0 H0 B0 F H B σ D Q q
  refine wa_data h D _ fun vs ds m1 F1 H1 B1 ⟨hp, hn, hk⟩ D1 q1 hd => ?_
  refine ⟨ds, B1, by rw [List.append_nil]; exact hd, D1.st.s, hp, fun v r H' B' hr s1 b1 t1 f1 rel => ?_, fun C H' hb => absurd hb (hn C)⟩
  have D2 := D1.pure s1 b1 t1 f1
  have q2 := q1.trans (Stq.pure (F := F1) s1 b1 t1 f1)
  refine q v r m1 F1 H' B' (hk r hr) D2 q2 ?_
  cases r with
  | d x => exact rel
  | o xs =>
    obtain ⟨p, us, rfl, g1, g2, g3, g4⟩ := rel
    exact ⟨p, us, rfl, g1, g2, D1.nF g3, Classical.byContradiction fun z => q1.e p z g3, g4⟩
  | l _ => exact rel.elim
  | v _ => exact rel.elim
  | c _ => exact rel.elim
/-! ## defs that change what stands in a state m -/
/-- the first argument is the thing of the state, the others are data -/
def spM {M : Type} (R : MR M) (K : PySem.W.Frag) (at_ : M → Addr) (pre : M → List PyData → Prop) (post : M → List PyData → Rk → M → Prop) (bad : M → List PyData → Addr → Prop) : Sp := fun vs H Q E => ∃ m us ds F B, vs = .ref (at_ m) :: us ∧ DqAll K B us ds ∧ Same B H ∧ R.rel m F H B ∧ pre m ds ∧
  (∀ v r m' F' H' B', post m ds r m' → Stq F H B F' H' B' → R.rel m' F' H' B' → RelR K H F' H' B' v r → Q v H') ∧ ∀ C F' H' B', bad m ds C → Stq F H B F' H' B' → R.rel m F' H' B' → E (.ref C) none H'
section
variable {M : Type} {R : MR M} {K : PySem.W.Frag} {E : XK} {XP : Addr → M → Prop} {ρ : List Sl} {m : M} {k : Rk → M → Prop} {ta te : TE} {tr : TA} {at_ : M → Addr} {pre : M → List PyData → Prop} {post : M → List PyData → Rk → M → Prop} {bad : M → List PyData → Addr → Prop}
/-- what a method answers -/
def ClsAt (R : MR M) (at_ : M → Addr) (C : Addr) (mm : Str) : Prop := ∀ {m F H B}, R.rel m F H B → ∃ dx fs, H (at_ m) = some (.ins C dx fs) ∧ fs.lookup mm = none
theorem we_meth {C : Addr} {mm : Str} {E' : XK} {i : Nat} (hc : ClsAt R at_ C mm) (hi : ρ[i]? = some (.v (.ref (at_ m))))
    (h : WA R K E XP ρ m tr fun rs m1 => ∃ ds, DLo rs = some ds ∧ at_ m1 = at_ m ∧ pre m1 ds ∧ (∀ D, ¬ bad m1 ds D) ∧ ∀ r m2, post m1 ds r m2 → k r m2) : WE R K E XP ρ m (tMeth C mm (spM R K at_ pre post bad) [] E' (tVar i) tr) k := by
  unfold WE
  intro F0 H0 B0 F H B σ D Q q
  obtain ⟨w, h1, h2⟩ := D.s i _ hi
  cases (show w = some (.ref (at_ m)) from h2)
  obtain ⟨dx, fs, h3, h4⟩ := hc D.r
  refine ⟨_, h1, at_ m, dx, fs, rfl, h3, h4, wa_data h D _ fun vs ds m1 F1 H1 B1 ⟨ea, hp, hn, hk⟩ D1 q1 hd => ?_⟩
  refine ⟨m1, vs, ds, F1, B1, by rw [List.append_nil, ea], hd, D1.st.s, D1.r, hp, fun v r m' F' H' B' hr st rl rel => ?_, fun C F' H' B' hb => absurd hb (hn C)⟩
  exact q v r m' F' H' B' (hk r m' hr) (D1.step st rl) (q1.trans st) (rel.base fun x hx => q1.e x hx)
end
/-- a method's body -/
theorem run_M {M : Type} {R : MR M} {K : PySem.W.Frag} {E : XK} {at_ : M → Addr} {pre : M → List PyData → Prop} {post : M → List PyData → Rk → M → Prop} {bad : M → List PyData → Addr → Prop} {vs : List V} {H : Hp} {Q : VK} {N : List Str} {ts : TS} (h : spM R K at_ pre post bad vs H Q E) (n : Nat) (hn : N.length - vs.length = n)
    (body : ∀ m ds, pre m ds → WS R K E (fun C m' => bad m ds C ∧ m' = m) (.v (.ref (at_ m)) :: (ds.map Sl.d ++ List.replicate n Sl.u)) m ts (fun _ m' => post m ds (.d .none) m') (fun r m' => post m ds r m') (fun _ _ => False) (fun _ _ => False)) :
    ts { nx := fun _ H' => Q .non H', rt := Q } (L2.start N vs) H := by
  obtain ⟨m, us, ds, F, B, rfl, hd, hB, hR, hp, q, qx⟩ := h
  have hl := dqa_len hd
  have D0 : DS R K E (fun C m' => bad m ds C ∧ m' = m) F H B F H B (L2.start N (.ref (at_ m) :: us)) (.v (.ref (at_ m)) :: (ds.map Sl.d ++ List.replicate n Sl.u)) m := by
    refine ⟨by unfold L2.start; simp [hl] at hn ⊢; omega, .refl hB, hR, fun i t ht => ?_, fun i j p xs ys h1 => ?_, fun C m' F' H' B' z st rl => by obtain ⟨z, rfl⟩ := z; exact qx C F' H' B' z st rl⟩
    · cases i with
      | zero => cases ht; exact ⟨_, rfl, rfl⟩
      | succ i =>
        unfold L2.start
        rw [List.getElem?_cons_succ] at ht
        rw [List.map_cons, List.cons_append, List.getElem?_cons_succ]
        by_cases hi : i < ds.length
        · rw [List.getElem?_append_left (by rw [List.length_map]; exact hi), List.getElem?_map, List.getElem?_eq_getElem hi] at ht
          cases ht
          obtain ⟨v, h1, h2⟩ := dqa_at hd (List.getElem?_eq_getElem hi)
          refine ⟨some v, ?_, v, rfl, h2⟩
          rw [List.getElem?_append_left (by rw [List.length_map]; omega), List.getElem?_map, h1]
          rfl
        · rw [List.getElem?_append_right (by rw [List.length_map]; omega), List.getElem?_replicate] at ht
          split at ht
          · next hc =>
            cases ht
            rw [List.length_map] at hc
            refine ⟨none, ?_, True.intro⟩
            rw [List.length_cons] at hn
            rw [List.getElem?_append_right (by rw [List.length_map]; omega), List.getElem?_replicate, if_pos (by rw [List.length_map, List.length_cons]; omega)]
          · cases ht
    · have := List.mem_of_getElem? h1
      rcases List.mem_cons.mp this with z | z
      · cases z
      · rcases List.mem_append.mp z with z | z
        · obtain ⟨x, _, e⟩ := List.mem_map.mp z; cases e
        · have := (List.mem_replicate.mp z).2; cases this
  have hb := body m ds hp
  unfold WS at hb
  exact hb _ D0 (fun hk D' _ => q .non (.d .none) _ _ _ _ hk D'.st D'.r .non) (fun hk st hF rel => q _ _ _ _ _ _ hk st hF rel) (fun z => z.elim) (fun z => z.elim)
theorem okM {M : Type} {R : MR M} {P : Program} {w : World} {K : PySem.W.Frag} {mg : Str → Option Value} {base : Heap} {x qual : Str} {st : Stmt} {f : Addr} {fd : FuncData} {N ps : List Str} {k : Nat} {at_ : M → Addr} {pre : M → List PyData → Prop} {post : M → List PyData → Rk → M → Prop}
    (F : Fun K x qual st f fd) (S : FnScope N ps (defScope st)) (n : Nat) (hn : N.length = ps.length + n) (len : ∀ m ds, pre m ds → ds.length + 1 = ps.length)
    (hb : ∀ (cdv : Value) (A : Around) (outer : List Env) (s : Shared) (H : Hp) (E : XK), Room k (A.deeper (envOfC qual (defScope st) s.heap.objs.size f cdv)) →
      ∃ t, PSs (cxOf CX0 P w K mg base N qual (defScope st) f cdv A outer s H E).nox (defBody st) t ∧
        ∀ m ds, pre m ds → WS R K E (fun C m' => False ∧ m' = m) (.v (.ref (at_ m)) :: (ds.map Sl.d ++ List.replicate n Sl.u)) m t (fun _ m' => post m ds (.d .none) m') (fun r m' => post m ds r m') (fun _ _ => False) (fun _ _ => False)) : FnOk P w K mg base CX0 (k + 1) f fd ps (spM R K at_ pre post fun _ _ _ => False) :=
  F.ok S (fun vs H Q E ⟨m, us, ds, F, B, e, hd, _, _, hp, _⟩ => by rw [e, List.length_cons, dqa_len hd, len m ds hp]) fun cdv A outer s H vs Q E hr h => by
    obtain ⟨t, h1, h2⟩ := hb cdv A outer s H E hr
    refine ⟨t, h1, run_M h n ?_ fun m ds hp => h2 m ds hp⟩
    obtain ⟨m, us, ds, F, B, rfl, hd, _, _, hp, _⟩ := h
    have := len m ds hp
    rw [List.length_cons, dqa_len hd, this, hn]
    omega
/-! ## the store -/
theorem Stq.putF {F : AP} {H B : Hp} {p : Addr} {o : HO} (s : Same B H) (hF : F p) (hb : B p = none) : Stq F H B F (upd H p o) B where
  b := Same.refl _
  s := fun x u h => by rw [upd_ne (fun z => by rw [z, hb] at h; cases h)]; exact s x u h
  f := fun _ _ h => h
  k := fun x u h n => by rw [upd_ne (fun z => n (by rw [z]; exact hF))]; exact h
  n := fun _ _ h => h
  e := fun x h => by
    by_cases hx : x = p
    · rw [hx, upd_same]; simp
    · rw [upd_ne hx]; exact h
abbrev Tab := List (List Key × PyData)
def lkD (tab : Tab) (k : List Key) : Option PyData := (tab.find? fun z => decide (z.1 = k)).map Prod.snd
def putD (tab : Tab) (k : List Key) (d : PyData) : Tab := if (tab.any fun z => decide (z.1 = k)) = true then tab.map (fun z => if z.1 = k then (z.1, d) else z) else tab ++ [(k, d)]
def dropD (tab : Tab) (k : List Key) : Tab := tab.filter fun z => decide (z.1 ≠ k)
/-- a table of the heap and its mirror -/
inductive TRel (K : PySem.W.Frag) (B : Hp) : List (List Key × V) → Tab → Prop
  | nil : TRel K B [] []
  | cons {k : List Key} {v : V} {d : PyData} {kvs : List (List Key × V)} {tab : Tab} : Dq K B v d → TRel K B kvs tab → TRel K B ((k, v) :: kvs) ((k, d) :: tab)
section
variable {K : PySem.W.Frag} {B B' : Hp}
theorem TRel.same (s : Same B B') : ∀ {kvs : List (List Key × V)} {tab : Tab}, TRel K B kvs tab → TRel K B' kvs tab
  | _, _, .nil => .nil
  | _, _, .cons h t => .cons (dq_same s _ h) (t.same s)
theorem TRel.length : ∀ {kvs : List (List Key × V)} {tab : Tab}, TRel K B kvs tab → kvs.length = tab.length
  | _, _, .nil => rfl
  | _, _, .cons _ t => by rw [List.length_cons, List.length_cons, t.length]
theorem TRel.keys : ∀ {kvs : List (List Key × V)} {tab : Tab}, TRel K B kvs tab → kvs.map Prod.fst = tab.map Prod.fst
  | _, _, .nil => rfl
  | _, _, .cons _ t => by rw [List.map_cons, List.map_cons, t.keys]
theorem TRel.get (k : List Key) : ∀ {kvs : List (List Key × V)} {tab : Tab}, TRel K B kvs tab → (valV kvs k = none ∧ lkD tab k = none) ∨ ∃ v d, valV kvs k = some v ∧ lkD tab k = some d ∧ Dq K B v d
  | _, _, .nil => .inl ⟨rfl, rfl⟩
  | _, _, .cons (k := k') (v := v) (d := d) h t => by
    unfold valV lkD
    rw [List.find?_cons, List.find?_cons]
    by_cases e : k' = k
    · rw [decide_eq_true e]
      exact .inr ⟨v, d, rfl, rfl, h⟩
    · rw [decide_eq_false e]
      exact t.get k
theorem TRel.has (k : List Key) : ∀ {kvs : List (List Key × V)} {tab : Tab}, TRel K B kvs tab → (kvs.any fun z => decide (z.1 = k)) = (tab.any fun z => decide (z.1 = k))
  | _, _, .nil => rfl
  | _, _, .cons _ t => by rw [List.any_cons, List.any_cons, t.has k]
theorem TRel.app {kvs : List (List Key × V)} {tab : Tab} {k : List Key} {v : V} {d : PyData} (h : Dq K B v d) : TRel K B kvs tab → TRel K B (kvs ++ [(k, v)]) (tab ++ [(k, d)])
  | .nil => .cons h .nil
  | .cons a t => .cons a (t.app h)
theorem TRel.set {k : List Key} {v : V} {d : PyData} (h : Dq K B v d) : ∀ {kvs : List (List Key × V)} {tab : Tab}, TRel K B kvs tab → TRel K B (kvs.map fun z => if z.1 = k then (z.1, v) else z) (tab.map fun z => if z.1 = k then (z.1, d) else z)
  | _, _, .nil => .nil
  | _, _, .cons (k := k') a t => by
    rw [List.map_cons, List.map_cons]
    by_cases e : k' = k
    · rw [if_pos e, if_pos e]; exact .cons h (t.set h)
    · rw [if_neg e, if_neg e]; exact .cons a (t.set h)
theorem TRel.put {kvs : List (List Key × V)} {tab : Tab} (t : TRel K B kvs tab) (k : List Key) {v : V} {d : PyData} (h : Dq K B v d) : TRel K B (putK kvs k v) (putD tab k d) := by
  unfold putK putD
  rw [t.has k]
  split
  · exact t.set h
  · exact t.app h
theorem TRel.drop (k : List Key) : ∀ {kvs : List (List Key × V)} {tab : Tab}, TRel K B kvs tab → TRel K B (dropK kvs k) (dropD tab k)
  | _, _, .nil => .nil
  | _, _, .cons (k := k') a t => by
    unfold dropK dropD
    rw [List.filter_cons, List.filter_cons]
    by_cases e : k' = k
    · rw [if_neg (by simp [e]), if_neg (by simp [e])]; exact t.drop k
    · rw [if_pos (by simp [e]), if_pos (by simp [e])]; exact .cons a (t.drop k)
end
structure SM where
  s : Addr
  t : Addr
  c : Addr
  rev : Int
  old : Int
  tab : Tab
  chs : List PyData
def fSto (m : SM) : List (Str × V) := [("revision", .int m.rev), ("oldest", .int m.old), ("_table", .ref m.t), ("_changes", .ref m.c)]
/-- the table of code, all of it in F -/
def TabF (F : AP) (H : Hp) (P : Addr) (q : Str) : Prop := ∃ ps : Array Value, H P = some (.tbl ps) ∧ TriplesOk ps.toList ∧ ∀ (pos : Pos) (cv : Value), codeAmong pos ps.toList = some cv → ∃ c, cv = .ref c ∧ H c = some (LamX.CodeO c q) ∧ F c
def stoR (K : PySem.W.Frag) (C P : Addr) (q : Str) : MR SM where
  rel := fun m F H B => (∃ dx, H m.s = some (.ins C dx (fSto m))) ∧ (∃ kvs, H m.t = some (.dT kvs) ∧ TRel K B kvs m.tab) ∧ (∃ us, H m.c = some (.lst us) ∧ DqAll K B us m.chs) ∧ TabF F H P q ∧ F m.s ∧ F m.t ∧ F m.c ∧ F P ∧ ∀ x, F x → H x ≠ none ∧ B x = none
  frame := fun {m F H B H' B'} ⟨h1, h2, h3, h4, f1, f2, f3, f4, hd⟩ e s n => by
    refine ⟨by rw [e _ f1]; exact h1, ?_, ?_, ?_, f1, f2, f3, f4, fun x hx => ⟨by rw [e x hx]; exact (hd x hx).1, n x hx⟩⟩
    · obtain ⟨kvs, a, b⟩ := h2
      exact ⟨kvs, by rw [e _ f2]; exact a, b.same s⟩
    · obtain ⟨us, a, b⟩ := h3
      exact ⟨us, by rw [e _ f3]; exact a, dqa_same s _ b⟩
    · obtain ⟨ps, a, b, c⟩ := h4
      refine ⟨ps, by rw [e _ f4]; exact a, b, fun pos cv hc => ?_⟩
      obtain ⟨c', u1, u2, u3⟩ := c pos cv hc
      exact ⟨c', u1, by rw [e _ u3]; exact u2, u3⟩
  dom := fun ⟨_, _, _, _, _, _, _, _, hd⟩ hx => hd _ hx
section
variable {K : PySem.W.Frag} {C P : Addr} {q : Str} {E : XK} {XP : Addr → SM → Prop} {ρ : List Sl} {m : SM} {k : Rk → SM → Prop} {te td ty tv : TE} {tr : TA} {nx bk ct : List Sl → SM → Prop} {rt : Rk → SM → Prop} {i : Nat}
theorem we_fldI {f : Str} {j : Int} (hC : Cls K C) (hN : NoAttr K C f) (hi : ρ[i]? = some (.v (.ref m.s))) (hl : (fSto m).lookup f = some (.int j)) (hk : k (.d (.int j)) m) : WE (stoR K C P q) K E XP ρ m (tFld K (tVar i) f) k := by
  unfold WE
  intro F0 H0 B0 F H B σ D Q qq
  obtain ⟨w, h1, h2⟩ := D.s i _ hi
  cases (show w = some (.ref m.s) from h2)
  obtain ⟨dx, h3⟩ := D.r.1
  exact ⟨_, h1, m.s, C, dx, _, _, rfl, h3, hC, hN, hl, qq _ _ m _ _ _ hk D (.refl D.st.s) (.int j)⟩
theorem we_fldV {f : Str} {v : V} (hC : Cls K C) (hN : NoAttr K C f) (hi : ρ[i]? = some (.v (.ref m.s))) (hl : (fSto m).lookup f = some v) (hk : k (.v v) m) : WE (stoR K C P q) K E XP ρ m (tFld K (tVar i) f) k := by
  unfold WE
  intro F0 H0 B0 F H B σ D Q qq
  obtain ⟨w, h1, h2⟩ := D.s i _ hi
  cases (show w = some (.ref m.s) from h2)
  obtain ⟨dx, h3⟩ := D.r.1
  exact ⟨_, h1, m.s, C, dx, _, _, rfl, h3, hC, hN, hl, qq _ (.v v) m _ _ _ hk D (.refl D.st.s) rfl⟩
/-- a key of two texts -/
def is2K (b : Rk) (x y : Str) : Prop := b = .d (.tuple [.str x, .str y])
theorem key_at {B H : Hp} {v : V} {x y : Str} (s : Same B H) (h : Dq K B v (.tuple [.str x, .str y])) : ∃ p, v = .ref p ∧ H p = some (.tup (([.inr x, .inr y] : List Key).map kV)) := by
  obtain ⟨p, ws, rfl, h1, h2⟩ := dq_tupH h
  have : ws = [.str x, .str y] := by
    cases h2 with
    | cons a b =>
      cases b with
      | cons c d => cases d; rw [dq_str a, dq_str c]
  subst this
  exact ⟨p, rfl, s _ _ h1⟩
theorem we_get1 (h : WE (stoR K C P q) K E XP ρ m td fun a m1 => a = .v (.ref m1.t) ∧ WE (stoR K C P q) K E XP ρ m1 ty fun b m2 => m2.t = m1.t ∧ ∃ x y, b = .d (.tuple [.str x, .str y]) ∧ k (.d ((lkD m2.tab [.inr x, .inr y]).getD .none)) m2) :
    WE (stoR K C P q) K E XP ρ m (tDGet1 td ty) k := by
  unfold WE at h ⊢
  intro F0 H0 B0 F H B σ D Q qq
  refine h D _ fun v a m1 F1 H1 B1 ⟨ea, k1⟩ D1 q1 r1 => ?_
  subst ea
  cases (show v = .ref m1.t from r1)
  obtain ⟨kvs, h1, h2⟩ := D1.r.2.1
  refine ⟨m1.t, rfl, .inr ⟨kvs, .inl h1⟩, k1 D1 _ fun w b m2 F2 H2 B2 ⟨et, x, y, eb, k2⟩ D2 q2 r2 => ?_⟩
  subst eb
  obtain ⟨p, rfl, hp⟩ := key_at D2.st.s r2
  obtain ⟨kvs2, h3, h4⟩ := D2.r.2.1
  rw [et] at h3
  refine ⟨_, DGet.t h3 hp, ?_⟩
  refine qq _ _ m2 F2 H2 B2 k2 D2 (q1.trans q2) ?_
  rcases h4.get [.inr x, .inr y] with ⟨e1, e2⟩ | ⟨u, d, e1, e2, e3⟩
  · rw [e1, e2]; exact .non
  · rw [e1, e2]; exact e3
end
/-! ## what changes the store -/
def sDDelT (td ty : TE) : TS := fun D σ H => td σ H fun x H1 => ty σ H1 fun y H2 => ∃ a kvs k b, x = .ref a ∧ H2 a = some (.dT kvs) ∧ y = .ref b ∧ H2 b = some (.tup (k.map kV)) ∧ (valV kvs k).isSome = true ∧ D.nx σ (upd H2 a (.dT (dropK kvs k)))
theorem ps_ddelT {X : Cx} {o i : Expr} {pos tpos : Pos} {td ty : TE} (hu : X.A.units + 1 < cLine) (ho : PE X o td) (hi : PE X i ty) : PS X (.Delete [.Subscript o i tpos] pos) (sDDelT td ty) := by
  refine ⟨fun pins s σ H D I h => wpAny_Delete (wpAny_deleteEach_cons (wpAny_delete_Subscript (thn (ho.run pins s σ H _ I h) fun u s1 ⟨x, H1, I1, rx, q1⟩ => thn (hi.run pins s1 σ H1 _ I1 q1) fun iv s2 z => ?_)))⟩
  obtain ⟨y, H2, I2, ry, a, kvs, k, b, rfl, ha, rfl, hb, l, q2⟩ := z
  obtain rfl : u = Value.ref a := rx
  obtain rfl : iv = Value.ref b := ry
  obtain ⟨z, hd, xs, rel, dd⟩ := dt_of I2.hok ha
  have hz : xs.length ≤ sizeLine := Paired.length rel ▸ z
  obtain ⟨p, hp⟩ : ∃ p, atKey xs k = some p := by
    have r := rel.val k
    cases e : atKey xs k with
    | some p => exact ⟨p, rfl⟩
    | none =>
      rw [e] at r
      cases ev : valV kvs k with
      | none => rw [ev] at l; cases l
      | some v => rw [ev] at r; exact r.elim
  refine wpAny_delItem_heap (hsz := hz) (tupleKind_room_in1 hu) (key_of I2.hok hb) hd dd hp fun h' dd' hs => wpAny_deleteEach_nil ?_
  obtain ⟨ob, es, ep, e1, e2, e3, e4, _, e5⟩ := dd'
  have I3 : Inv X pins σ (upd H2 a (.dT (dropK kvs k))) { s2 with heap := h', toks := s2.toks + (tupleKind (mixKind X.prog X.w)).draws k } := d_write I2 (show Mut (H2 a) by rw [ha]; exact True.intro) hs ⟨ob, e1⟩
    ⟨Nat.le_trans (dropK_le kvs k) z, hd, _, (DX.KT_drop k rel).keeps (fun c ys ec => by rw [upd_ne (ne_of ec ha fun z => nomatch z)]; exact ec), ob, es, ep, e1, e2, e3, e4, e5⟩
  exact ⟨σ, _, I3, q2⟩
section
variable {K : PySem.W.Frag} {C P : Addr} {q : Str} {F : AP} {H B : Hp} {m : SM}
theorem tabF_upd {p : Addr} {o : HO} (h : TabF F H P q) (n1 : p ≠ P) (n2 : ∀ c, H c = some (LamX.CodeO c q) → p ≠ c) : TabF F (upd H p o) P q := by
  obtain ⟨ps, a, b, c⟩ := h
  refine ⟨ps, by rw [upd_ne (Ne.symm n1)]; exact a, b, fun pos cv hc => ?_⟩
  obtain ⟨c', u1, u2, u3⟩ := c pos cv hc
  exact ⟨c', u1, by rw [upd_ne (Ne.symm (n2 c' u2))]; exact u2, u3⟩
theorem dom_upd {p : Addr} {o : HO} (hd : ∀ x, F x → H x ≠ none ∧ B x = none) : ∀ x, F x → (upd H p o) x ≠ none ∧ B x = none := fun x hx => by
  refine ⟨?_, (hd x hx).2⟩
  by_cases e : x = p
  · rw [e, upd_same]; simp
  · rw [upd_ne e]; exact (hd x hx).1
theorem rel_rev {dx : Addr} {r : Int} (h : (stoR K C P q).rel m F H B) (_ : H m.s = some (.ins C dx (fSto m))) : (stoR K C P q).rel { m with rev := r } F (upd H m.s (.ins C dx (fSto { m with rev := r }))) B := by
  obtain ⟨⟨dx', h1⟩, ⟨kvs, t1, t2⟩, ⟨us, c1, c2⟩, h4, f1, f2, f3, f4, hd⟩ := h
  have hP : ∃ ps, H P = some (.tbl ps) := by obtain ⟨ps, a, _⟩ := h4; exact ⟨ps, a⟩
  obtain ⟨ps, hP⟩ := hP
  refine ⟨⟨dx, upd_same⟩, ⟨kvs, ?_, t2⟩, ⟨us, ?_, c2⟩, tabF_upd h4 (fun z => ?_) (fun c hc z => ?_), f1, f2, f3, f4, dom_upd hd⟩
  · show (upd H m.s _) m.t = _
    rw [upd_ne (ne_of t1 h1 (fun z => nomatch z))]; exact t1
  · show (upd H m.s _) m.c = _
    rw [upd_ne (ne_of c1 h1 (fun z => nomatch z))]; exact c1
  · rw [← z, h1] at hP; cases hP
  · rw [← z, h1] at hc; unfold LamX.CodeO at hc; cases hc
theorem rel_tab {kvs : List (List Key × V)} {tab : Tab} (h : (stoR K C P q).rel m F H B) (ht : TRel K B kvs tab) : (stoR K C P q).rel { m with tab := tab } F (upd H m.t (.dT kvs)) B := by
  obtain ⟨⟨dx, h1⟩, ⟨kvs', t1, _⟩, ⟨us, c1, c2⟩, h4, f1, f2, f3, f4, hd⟩ := h
  obtain ⟨ps, hP⟩ : ∃ ps, H P = some (.tbl ps) := by obtain ⟨ps, a, _⟩ := h4; exact ⟨ps, a⟩
  refine ⟨⟨dx, ?_⟩, ⟨kvs, upd_same, ht⟩, ⟨us, ?_, c2⟩, tabF_upd h4 (fun z => ?_) (fun c hc z => ?_), f1, f2, f3, f4, dom_upd hd⟩
  · show (upd H m.t _) m.s = _
    rw [upd_ne (ne_of h1 t1 (fun z => nomatch z))]; exact h1
  · show (upd H m.t _) m.c = _
    rw [upd_ne (ne_of c1 t1 (fun z => nomatch z))]; exact c1
  · rw [← z, t1] at hP; cases hP
  · rw [← z, t1] at hc; unfold LamX.CodeO at hc; cases hc
theorem rel_chs {us : List V} {chs : List PyData} (h : (stoR K C P q).rel m F H B) (hu : DqAll K B us chs) : (stoR K C P q).rel { m with chs := chs } F (upd H m.c (.lst us)) B := by
  obtain ⟨⟨dx, h1⟩, ⟨kvs, t1, t2⟩, ⟨us', c1, _⟩, h4, f1, f2, f3, f4, hd⟩ := h
  obtain ⟨ps, hP⟩ : ∃ ps, H P = some (.tbl ps) := by obtain ⟨ps, a, _⟩ := h4; exact ⟨ps, a⟩
  refine ⟨⟨dx, ?_⟩, ⟨kvs, ?_, t2⟩, ⟨us, upd_same, hu⟩, tabF_upd h4 (fun z => ?_) (fun c hc z => ?_), f1, f2, f3, f4, dom_upd hd⟩
  · show (upd H m.c _) m.s = _
    rw [upd_ne (ne_of h1 c1 (fun z => nomatch z))]; exact h1
  · show (upd H m.c _) m.t = _
    rw [upd_ne (ne_of t1 c1 (fun z => nomatch z))]; exact t1
  · rw [← z, c1] at hP; cases hP
  · rw [← z, c1] at hc; unfold LamX.CodeO at hc; cases hc
end
section
variable {K : PySem.W.Frag} {C P : Addr} {q : Str} {E : XK} {XP : Addr → SM → Prop} {ρ : List Sl} {m : SM} {k : Rk → SM → Prop} {te td ty tv : TE} {tr : TA} {nx bk ct : List Sl → SM → Prop} {rt : Rk → SM → Prop} {i : Nat}
theorem ws_revaug {j : Int} (hC : Cls K C) (hN : NoAttr K C "revision") (hi : ρ[i]? = some (.v (.ref m.s))) (hk : nx ρ { m with rev := m.rev + j }) : WS (stoR K C P q) K E XP ρ m (sFldAug K (tVar i) (tC (.int j)) rAdd "revision") nx rt bk ct := by
  unfold WS
  intro F0 H0 B0 F H B σ D d n r b c
  obtain ⟨w, h1, h2⟩ := d.s i _ hi
  cases (show w = some (.ref m.s) from h2)
  obtain ⟨dx, h3⟩ := d.r.1
  refine ⟨_, h1, m.s, C, dx, _, _, rfl, h3, hC, hN, rfl, m.rev, j, rfl, rfl, dx, _, h3, by show 4 < 1000; decide, ?_⟩
  have hs : F m.s := d.r.2.2.2.2.1
  have hB := (d.r.2.2.2.2.2.2.2.2 _ hs).2
  exact n hk (d.step (.putF d.st.s hs hB) (rel_rev (r := m.rev + j) d.r h3)) (Same.refl _)
theorem ws_dput (h : WE (stoR K C P q) K E XP ρ m tv fun r m1 => ∃ d, r = .d d ∧ WE (stoR K C P q) K E XP ρ m1 td fun a m2 => a = .v (.ref m2.t) ∧ WE (stoR K C P q) K E XP ρ m2 ty fun b m3 => m3.t = m2.t ∧ ∃ x y, b = .d (.tuple [.str x, .str y]) ∧ m3.tab.length < 90000 ∧ nx ρ { m3 with tab := putD m3.tab [.inr x, .inr y] d }) :
    WS (stoR K C P q) K E XP ρ m (sDPut td ty tv) nx rt bk ct := by
  unfold WE at h
  unfold WS
  intro F0 H0 B0 F H B σ D d n r b c
  refine h d _ fun v rv m1 F1 H1 B1 ⟨dd, e1, k1⟩ D1 q1 r1 => ?_
  subst e1
  refine k1 D1 _ fun w ra m2 F2 H2 B2 ⟨e2, k2⟩ D2 q2 r2 => ?_
  subst e2
  cases (show w = .ref m2.t from r2)
  refine k2 D2 _ fun u rb m3 F3 H3 B3 ⟨et, x, y, e3, hl, k3⟩ D3 q3 r3 => ?_
  subst e3
  obtain ⟨p, rfl, hp⟩ := key_at D3.st.s r3
  obtain ⟨kvs, h1, h2⟩ := D3.r.2.1
  have hv : Dq K B3 v dd := dq_same q3.b _ (dq_same q2.b _ r1)
  rw [← et]
  refine ⟨m3.t, _, rfl, DPut.t h1 hp (szl (by rw [h2.length]; omega)), ?_⟩
  have hs : F3 m3.t := D3.r.2.2.2.2.2.1
  have hB := (D3.r.2.2.2.2.2.2.2.2 _ hs).2
  exact n k3 (D3.step (.putF D3.st.s hs hB) (rel_tab D3.r (h2.put _ hv))) (q1.b.trans (q2.b.trans q3.b))
theorem ws_ddel (h : WE (stoR K C P q) K E XP ρ m td fun a m2 => a = .v (.ref m2.t) ∧ WE (stoR K C P q) K E XP ρ m2 ty fun b m3 => m3.t = m2.t ∧ ∃ x y, b = .d (.tuple [.str x, .str y]) ∧ (lkD m3.tab [.inr x, .inr y]).isSome = true ∧ nx ρ { m3 with tab := dropD m3.tab [.inr x, .inr y] }) :
    WS (stoR K C P q) K E XP ρ m (sDDelT td ty) nx rt bk ct := by
  unfold WE at h
  unfold WS
  intro F0 H0 B0 F H B σ D d n r b c
  refine h d _ fun w ra m2 F2 H2 B2 ⟨e2, k2⟩ D2 q2 r2 => ?_
  subst e2
  cases (show w = .ref m2.t from r2)
  refine k2 D2 _ fun u rb m3 F3 H3 B3 ⟨et, x, y, e3, hl, k3⟩ D3 q3 r3 => ?_
  subst e3
  obtain ⟨p, rfl, hp⟩ := key_at D3.st.s r3
  obtain ⟨kvs, h1, h2⟩ := D3.r.2.1
  rw [← et]
  refine ⟨m3.t, kvs, _, p, rfl, h1, rfl, hp, ?_, ?_⟩
  · rcases h2.get [.inr x, .inr y] with ⟨_, e⟩ | ⟨u, dd, e, _⟩
    · rw [e] at hl; cases hl
    · rw [e]; rfl
  · have hs : F3 m3.t := D3.r.2.2.2.2.2.1
    have hB := (D3.r.2.2.2.2.2.2.2.2 _ hs).2
    exact n k3 (D3.step (.putF D3.st.s hs hB) (rel_tab D3.r (h2.drop _))) (q2.b.trans q3.b)
theorem ws_chapp (hC : Cls K C) (hN : NoAttr K C "_changes") (hi : ρ[i]? = some (.v (.ref m.s))) (h : WA (stoR K C P q) K E XP ρ m tr fun rs m1 => ∃ ds, DLo rs = some ds ∧ m1.c = m.c ∧ ∃ x, ds = [x] ∧ m1.chs.length < 90000 ∧ nx ρ { m1 with chs := m1.chs ++ [x] }) :
    WS (stoR K C P q) K E XP ρ m (tDrop (tBM K "list" rAppend (tFld K (tVar i) "_changes") tr)) nx rt bk ct := by
  unfold WS
  intro F0 H0 B0 F H B σ D d n r b c
  obtain ⟨w, h1, h2⟩ := d.s i _ hi
  cases (show w = some (.ref m.s) from h2)
  obtain ⟨dx, h3⟩ := d.r.1
  obtain ⟨us, h4, h5⟩ := d.r.2.2.1
  refine ⟨_, h1, m.s, C, dx, _, _, rfl, h3, hC, hN, rfl, .inl ⟨rfl, _, sql h4⟩, wa_data h d _ fun vs ds m1 F1 H1 B1 ⟨ec, x, e, hl, k1⟩ D1 q1 hd => ?_⟩
  subst e
  cases hd with
  | cons g1 g2 =>
    cases g2
    obtain ⟨us1, h6, h7⟩ := D1.r.2.2.1
    have hs : F1 m1.c := D1.r.2.2.2.2.2.2.1
    have hB := (D1.r.2.2.2.2.2.2.2.2 _ hs).2
    rw [← ec]
    refine ⟨m1.c, us1, _, rfl, rfl, h6, szl (by rw [dqa_len h7]; omega), ?_⟩
    exact n k1 (D1.step (.putF D1.st.s hs hB) (rel_chs D1.r (dqa_app h7 (.cons g1 .nil)))) q1.b
end
/-! ## the store's entry, as a rule -/
theorem clsS {K : PySem.W.Frag} {C P : Addr} {q mm : Str} (h : ∀ m : SM, (fSto m).lookup mm = none) : ClsAt (stoR K C P q) SM.s C mm := fun {m F H B} r => by
  obtain ⟨⟨dx, e⟩, _⟩ := r
  exact ⟨dx, _, e, h m⟩
def spEnt (K : PySem.W.Frag) (C P : Addr) (q : Str) : Sp := spM (stoR K C P q) K SM.s (fun _ ds => ∃ x y, ds = [.str x, .str y]) (fun m ds r m' => m' = m ∧ ∀ x y, ds = [.str x, .str y] → r = .d ((lkD m.tab [.inr x, .inr y]).getD .none)) fun _ _ _ => False
theorem we_ent {K : PySem.W.Frag} {C P : Addr} {q : Str} {E E' : XK} {XP : Addr → SM → Prop} {ρ : List Sl} {m : SM} {k : Rk → SM → Prop} {tr : TA} {i : Nat} (hi : ρ[i]? = some (.v (.ref m.s))) (h : WA (stoR K C P q) K E XP ρ m tr fun rs m1 => ∃ ds, DLo rs = some ds ∧ ∃ x y, ds = [.str x, .str y] ∧ m1.s = m.s ∧ k (.d ((lkD m1.tab [.inr x, .inr y]).getD .none)) m1) :
    WE (stoR K C P q) K E XP ρ m (tMeth C "entry" (spEnt K C P q) [] E' (tVar i) tr) k :=
  we_meth (clsS fun _ => rfl) hi (WA.mono h fun rs m1 ⟨ds, e, x, y, e2, e3, hk⟩ => ⟨ds, e, e3, ⟨x, y, e2⟩, fun _ => id, fun r m2 ⟨e4, e5⟩ => by rw [e4, e5 x y e2]; exact hk⟩)
theorem psK_fldaug {K : PySem.W.Frag} {X : Cx} {o value : Expr} {f : Str} {pos tpos : Pos} {ta tv : TE} {op : Operator} {rd : V → V → Hp → VK → Prop} (h : X.K = K) (ha : PE X o ta) (hv : PE X value tv) (hop : InOp X op rd) : PS X (.AugAssign (.Attribute o f tpos) op value pos) (sFldAug K ta tv rd f) := by subst h; exact ps_fldaug ha hv hop
/-! ## lists that are only read -/
theorem we_varL {M : Type} {R : MR M} {K : PySem.W.Frag} {E : XK} {XP : Addr → M → Prop} {ρ : List Sl} {m : M} {k : Rk → M → Prop} {i : Nat} {xs : List PyData} (h : ρ[i]? = some (.l xs)) (hk : k (.l xs) m) : WE R K E XP ρ m (tVar i) k := by
  unfold WE
  intro F0 H0 B0 F H B σ D Q q
  obtain ⟨w, h1, p, vs, rfl, h2, h4, h5, h6⟩ := D.s i _ h
  exact ⟨_, h1, q _ (.l xs) m _ _ _ hk D (.refl D.st.s) ⟨p, vs, rfl, h2, h4, h6⟩⟩
def argOk : Rk → Bool
  | .d _ => true
  | .l _ => true
  | .v _ => true
  | _ => false
def slA : Rk → Sl
  | .d x => .d x
  | .l xs => .l xs
  | .v x => .v x
  | _ => .u
def asL : Rk → Rk
  | .o xs => .l xs
  | r => r
def spA {M : Type} (R : MR M) (K : PySem.W.Frag) (pre : M → List Rk → Prop) (post : M → List Rk → Rk → M → Prop) : Sp := fun vs H Q _ => ∃ m rs F B, RelA K H F H B vs rs ∧ rs.all argOk = true ∧ Same B H ∧ R.rel m F H B ∧ pre m rs ∧
  ∀ v r m' F' H' B', post m rs r m' → Stq F H B F' H' B' → R.rel m' F' H' B' → RelR K H F' H' B' v r → Q v H'
theorem relA_len {K : PySem.W.Frag} {H0 : Hp} {F : AP} {H B : Hp} : ∀ {vs : List V} {rs : List Rk}, RelA K H0 F H B vs rs → vs.length = rs.length
  | [], [], _ => rfl
  | _ :: _, _ :: _, h => by rw [List.length_cons, List.length_cons, relA_len h.2]
  | [], _ :: _, h => h.elim
  | _ :: _, [], h => h.elim
theorem relA_at {K : PySem.W.Frag} {H0 : Hp} {F : AP} {H B : Hp} : ∀ {vs : List V} {rs : List Rk} {i : Nat} {r : Rk}, RelA K H0 F H B vs rs → rs[i]? = some r → ∃ v, vs[i]? = some v ∧ RelR K H0 F H B v r
  | [], [], _, _, _, e => by cases e
  | v :: _, _ :: _, 0, _, h, e => by cases e; exact ⟨v, rfl, h.1⟩
  | _ :: _, _ :: _, i + 1, _, h, e => relA_at (i := i) h.2 (by simpa using e)
  | [], _ :: _, _, _, h, _ => h.elim
  | _ :: _, [], _, _, h, _ => h.elim
theorem relR_asL {K : PySem.W.Frag} {H0 H1 : Hp} {F : AP} {H B : Hp} {v : V} {r : Rk} (h : RelR K H0 F H B v r) : RelR K H1 F H B v (asL r) := by
  cases r with
  | o xs => obtain ⟨p, vs, rfl, h1, _, h3, _, h5⟩ := h; exact ⟨p, vs, rfl, h1, h3, h5⟩
  | d x => exact h
  | l xs => exact h
  | v x => exact h
  | c x => exact h
theorem relA_asL {K : PySem.W.Frag} {H0 H1 : Hp} {F : AP} {H B : Hp} : ∀ {vs : List V} {rs : List Rk}, RelA K H0 F H B vs rs → RelA K H1 F H B vs (rs.map asL)
  | [], [], _ => True.intro
  | _ :: _, _ :: _, h => ⟨relR_asL h.1, relA_asL h.2⟩
  | [], _ :: _, h => h.elim
  | _ :: _, [], h => h.elim
theorem relR_noF {K : PySem.W.Frag} {H0 : Hp} {F : AP} {H B : Hp} {v : V} {r : Rk} (h : RelR K H0 F H B v r) : RelR K H0 (fun _ => False) H B v r := by
  cases r with
  | o xs => obtain ⟨p, vs, rfl, h1, h2, _, h4, h5⟩ := h; exact ⟨p, vs, rfl, h1, h2, id, h4, h5⟩
  | l xs => obtain ⟨p, vs, rfl, h1, _, h5⟩ := h; exact ⟨p, vs, rfl, h1, id, h5⟩
  | d x => exact h
  | v x => exact h
  | c x => exact h
theorem relA_noF {K : PySem.W.Frag} {H0 : Hp} {F : AP} {H B : Hp} : ∀ {vs : List V} {rs : List Rk}, RelA K H0 F H B vs rs → RelA K H0 (fun _ => False) H B vs rs
  | [], [], _ => True.intro
  | _ :: _, _ :: _, h => ⟨relR_noF h.1, relA_noF h.2⟩
  | [], _ :: _, h => h.elim
  | _ :: _, [], h => h.elim
theorem run_A {M : Type} {R : MR M} {K : PySem.W.Frag} {E : XK} {pre : M → List Rk → Prop} {post : M → List Rk → Rk → M → Prop} {vs : List V} {H : Hp} {Q : VK} {N : List Str} {ts : TS} (h : spA R K pre post vs H Q E) (n : Nat) (hn : N.length - vs.length = n)
    (body : ∀ m rs, pre m rs → WS R K E (fun _ _ => False) (rs.map slA ++ List.replicate n Sl.u) m ts (fun _ m' => post m rs (.d .none) m') (fun r m' => post m rs r m') (fun _ _ => False) (fun _ _ => False)) :
    ts { nx := fun _ H' => Q .non H', rt := Q } (L2.start N vs) H := by
  obtain ⟨m, rs, F, B, hd, ha, hB, hR, hp, q⟩ := h
  have hl := relA_len hd
  have D0 : DS R K E (fun _ _ => False) F H B F H B (L2.start N vs) (rs.map slA ++ List.replicate n Sl.u) m := by
    refine ⟨by unfold L2.start; simp [hl] at hn ⊢; omega, .refl hB, hR, fun i t ht => ?_, fun i j p xs ys h1 => ?_, fun _ _ _ _ _ z => z.elim⟩
    · unfold L2.start
      by_cases hi : i < rs.length
      · rw [List.getElem?_append_left (by rw [List.length_map]; exact hi), List.getElem?_map, List.getElem?_eq_getElem hi] at ht
        cases ht
        obtain ⟨v, h1, h2⟩ := relA_at hd (List.getElem?_eq_getElem hi)
        refine ⟨some v, ?_, ?_⟩
        · rw [List.getElem?_append_left (by rw [List.length_map]; omega), List.getElem?_map, h1]
          rfl
        · generalize rs[i] = r at h2
          cases r with
          | d x => exact ⟨v, rfl, h2⟩
          | l xs => obtain ⟨p, us, rfl, g1, g2, g3⟩ := h2; exact ⟨p, us, rfl, g1, g2, by rw [g1]; simp, g3⟩
          | v x => exact congrArg some h2
          | o xs => exact True.intro
          | c xs => exact True.intro
      · rw [List.getElem?_append_right (by rw [List.length_map]; omega), List.getElem?_replicate] at ht
        split at ht
        · next hc =>
          cases ht
          rw [List.length_map] at hc
          refine ⟨none, ?_, True.intro⟩
          rw [List.getElem?_append_right (by rw [List.length_map]; omega), List.getElem?_replicate, if_pos (by rw [List.length_map]; omega)]
        · cases ht
    · have := List.mem_of_getElem? h1
      rcases List.mem_append.mp this with z | z
      · obtain ⟨x, _, e⟩ := List.mem_map.mp z
        cases x <;> cases e
      · have := (List.mem_replicate.mp z).2; cases this
  have hb := body m rs hp
  unfold WS at hb
  exact hb _ D0 (fun hk D' _ => q .non (.d .none) _ _ _ _ hk D'.st D'.r .non) (fun hk st hF rel => q _ _ _ _ _ _ hk st hF rel) (fun z => z.elim) (fun z => z.elim)
theorem okA {M : Type} {R : MR M} {P : Program} {w : World} {K : PySem.W.Frag} {mg : Str → Option Value} {base : Heap} {x qual : Str} {st : Stmt} {f : Addr} {fd : FuncData} {N ps : List Str} {k : Nat} {pre : M → List Rk → Prop} {post : M → List Rk → Rk → M → Prop}
    (F : Fun K x qual st f fd) (S : FnScope N ps (defScope st)) (n : Nat) (hn : N.length = ps.length + n) (len : ∀ m rs, pre m rs → rs.length = ps.length)
    (hb : ∀ (cdv : Value) (A : Around) (outer : List Env) (s : Shared) (H : Hp) (E : XK), Room k (A.deeper (envOfC qual (defScope st) s.heap.objs.size f cdv)) →
      ∃ t, PSs (cxOf CX0 P w K mg base N qual (defScope st) f cdv A outer s H E).nox (defBody st) t ∧
        ∀ m rs, pre m rs → WS R K E (fun _ _ => False) (rs.map slA ++ List.replicate n Sl.u) m t (fun _ m' => post m rs (.d .none) m') (fun r m' => post m rs r m') (fun _ _ => False) (fun _ _ => False)) : FnOk P w K mg base CX0 (k + 1) f fd ps (spA R K pre post) :=
  F.ok S (fun vs H Q E ⟨m, rs, F, B, hd, _, _, _, hp, _⟩ => by rw [relA_len hd, len m rs hp]) fun cdv A outer s H vs Q E hr h => by
    obtain ⟨t, h1, h2⟩ := hb cdv A outer s H E hr
    refine ⟨t, h1, run_A h n ?_ fun m rs hp => h2 m rs hp⟩
    obtain ⟨m, rs, F, B, hd, _, _, _, hp, _⟩ := h
    rw [relA_len hd, len m rs hp, hn]
    omega
section
variable {M : Type} {R : MR M} {K : PySem.W.Frag} {E : XK} {XP : Addr → M → Prop} {ρ : List Sl} {m : M} {k : Rk → M → Prop} {tr : TA} {E' : XK}
/-- a def of the same state -/
theorem we_callA {pre : M → List Rk → Prop} {post : M → List Rk → Rk → M → Prop} (h : WA R K E XP ρ m tr fun rs m1 => (rs.map asL).all argOk = true ∧ pre m1 (rs.map asL) ∧ ∀ r m2, post m1 (rs.map asL) r m2 → k r m2) : WE R K E XP ρ m (tCall (spA R K pre post) [] E' tr) k := by
  unfold WE WA at *
  intro F0 H0 B0 F H B σ D Q q
  refine h D _ fun vs rs m1 F1 H1 B1 ⟨ha, hp, hk⟩ D1 q1 r1 => ?_
  rw [List.append_nil]
  refine ⟨m1, rs.map asL, F1, B1, relA_asL r1, ha, D1.st.s, D1.r, hp, fun v r m' F' H' B' hr st rl rel => ?_⟩
  exact q v r m' F' H' B' (hk r m' hr) (D1.step st rl) (q1.trans st) (rel.base fun x hx => q1.e x hx)
/-- a def that touches no state -/
theorem we_callN {pre : Unit → List Rk → Prop} {post : Unit → List Rk → Rk → Unit → Prop} (h : WA R K E XP ρ m tr fun rs m1 => (rs.map asL).all argOk = true ∧ pre () (rs.map asL) ∧ ∀ r, post () (rs.map asL) r () → isDo r ∧ k r m1) : WE R K E XP ρ m (tCall (spA noM K pre post) [] E' tr) k := by
  unfold WE WA at *
  intro F0 H0 B0 F H B σ D Q q
  refine h D _ fun vs rs m1 F1 H1 B1 ⟨ha, hp, hk⟩ D1 q1 r1 => ?_
  rw [List.append_nil]
  refine ⟨(), rs.map asL, fun _ => False, B1, relA_noF (relA_asL r1), ha, D1.st.s, fun _ => id, hp, fun v r m' F' H' B' hr st rl rel => ?_⟩
  obtain ⟨hi, hkr⟩ := hk r hr
  have hs : Same H1 H' := fun x o hx => st.k x o hx id
  refine q v r m1 F1 H' B' hkr (D1.pure hs st.b st.s st.f) (q1.trans (.pure hs st.b st.s st.f)) ?_
  cases r with
  | d x => exact rel
  | o xs =>
    obtain ⟨p, us, rfl, g1, g2, _, g4, g5⟩ := rel
    refine ⟨p, us, rfl, g1, g2, fun z => (R.dom D1.r z).1 g4, ?_, g5⟩
    exact Classical.byContradiction fun z => q1.e p z g4
  | l _ => exact hi.elim
  | v _ => exact hi.elim
  | c _ => exact hi.elim
end
/-! ## a state of two parts -/
def prM {M1 M2 : Type} (R1 : MR M1) (R2 : MR M2) : MR (M1 × M2) where
  rel := fun m F H B => ∃ F1 F2, (∀ x, F x ↔ F1 x ∨ F2 x) ∧ (∀ x, F1 x → ¬ F2 x) ∧ R1.rel m.1 F1 H B ∧ R2.rel m.2 F2 H B
  frame := fun {m F H B H' B'} z e s n => by
    obtain ⟨F1, F2, h, d, r1, r2⟩ := z
    exact ⟨F1, F2, h, d, R1.frame r1 (fun x hx => e x ((h x).mpr (.inl hx))) s fun x hx => n x ((h x).mpr (.inl hx)), R2.frame r2 (fun x hx => e x ((h x).mpr (.inr hx))) s fun x hx => n x ((h x).mpr (.inr hx))⟩
  dom := fun ⟨_, _, h, _, r1, r2⟩ hx => ((h _).mp hx).elim (fun z => R1.dom r1 z) fun z => R2.dom r2 z
/-- R1 is a part of R -/
structure Part {M M1 : Type} (R : MR M) (R1 : MR M1) (get : M → M1) (set : M → M1 → M) : Prop where
  on : ∀ {m F H B}, R.rel m F H B → ∃ F1, R1.rel (get m) F1 H B ∧ (∀ x, F1 x → F x) ∧ ∀ m1' F1' H' B', Stq F1 H B F1' H' B' → R1.rel m1' F1' H' B' → ∃ F', R.rel (set m m1') F' H' B' ∧ Stq F H B F' H' B' ∧ ∀ x, F' x → ¬ F1' x → H x ≠ none
theorem Part.refl {M : Type} {R : MR M} : Part R R (fun m => m) (fun _ m => m) := ⟨fun r => ⟨_, r, fun _ h => h, fun _ _ _ _ st r' => ⟨_, r', st, fun _ h n => absurd h n⟩⟩⟩
section
variable {M1 M2 : Type} {R1 : MR M1} {R2 : MR M2}
theorem part_step {F F1 F2 F1' : AP} {H B H' B' : Hp} {m2 : M2} (h : ∀ x, F x ↔ F1 x ∨ F2 x) (d : ∀ x, F1 x → ¬ F2 x) (r2 : R2.rel m2 F2 H B) (st : Stq F1 H B F1' H' B') :
    R2.rel m2 F2 H' B' ∧ (∀ x, F1' x → ¬ F2 x) ∧ Stq F H B (fun x => F1' x ∨ F2 x) H' B' := by
  have hd : ∀ x, F2 x → ¬ F1' x := fun x hx => st.n x (R2.dom r2 hx).1 fun z => d x z hx
  refine ⟨R2.frame r2 (fun x hx => ?_) st.b (fun x hx => st.f x (R2.dom r2 hx).1 (R2.dom r2 hx).2), fun x h1 h2 => hd x h2 h1, ⟨st.b, st.s, st.f, fun x o hx hn => st.k x o hx fun z => hn ((h x).mpr (.inl z)), fun x hx hn z => ?_, st.e⟩⟩
  · obtain ⟨h1, _⟩ := R2.dom r2 hx
    cases e : H x with
    | none => exact absurd e h1
    | some o => exact st.k x o e fun z => d x z hx
  · rcases z with z | z
    · exact st.n x hx (fun y => hn ((h x).mpr (.inl y))) z
    · exact hn ((h x).mpr (.inr z))
theorem Part.left : Part (prM R1 R2) R1 (fun m => m.1) (fun m a => (a, m.2)) := ⟨fun ⟨F1, F2, h, d, r1, r2⟩ => ⟨F1, r1, fun x hx => (h x).mpr (.inl hx), fun m1' F1' H' B' st r' => by
  obtain ⟨g1, g2, g3⟩ := part_step h d r2 st
  exact ⟨_, ⟨F1', F2, fun _ => Iff.rfl, g2, r', g1⟩, g3, fun x hx hn => (R2.dom r2 (hx.resolve_left hn)).1⟩⟩⟩
theorem Part.right : Part (prM R1 R2) R2 (fun m => m.2) (fun m a => (m.1, a)) := ⟨fun ⟨F1, F2, h, d, r1, r2⟩ => ⟨F2, r2, fun x hx => (h x).mpr (.inr hx), fun m1' F1' H' B' st r' => by
  obtain ⟨g1, g2, g3⟩ := part_step (R2 := R1) (m2 := _) (F1 := F2) (F2 := F1) (fun x => (h x).trans or_comm) (fun x a b => d x b a) r1 st
  exact ⟨fun x => F1' x ∨ F1 x, ⟨F1, F1', fun x => ⟨fun z => z.symm, fun z => z.symm⟩, fun x a b => g2 x b a, g1, r'⟩, g3, fun x hx hn => (R1.dom r1 (hx.resolve_left hn)).1⟩⟩⟩
theorem Part.trans {M M3 : Type} {R : MR M} {R3 : MR M3} {g1 : M → M1} {s1 : M → M1 → M} {g2 : M1 → M3} {s2 : M1 → M3 → M1} (a : Part R R1 g1 s1) (b : Part R1 R3 g2 s2) : Part R R3 (fun m => g2 (g1 m)) (fun m x => s1 m (s2 (g1 m) x)) := ⟨fun r => by
  obtain ⟨F1, r1, i1, c1⟩ := a.on r
  obtain ⟨F3, r3, i3, c3⟩ := b.on r1
  refine ⟨F3, r3, fun x hx => i1 x (i3 x hx), fun m' F' H' B' st r' => ?_⟩
  obtain ⟨F4, r4, st4, n4⟩ := c3 m' F' H' B' st r'
  obtain ⟨F5, r5, st5, n5⟩ := c1 _ F4 H' B' st4 r4
  refine ⟨F5, r5, st5, fun x h5 hn => ?_⟩
  by_cases h4 : F4 x
  · exact n4 x h4 hn
  · exact n5 x h5 h4⟩
end
section
variable {M M1 : Type} {R : MR M} {R1 : MR M1} {get : M → M1} {set : M → M1 → M} {K : PySem.W.Frag} {E : XK} {XP : Addr → M → Prop} {ρ : List Sl} {m : M} {k : Rk → M → Prop} {te : TE} {tr : TA} {at_ : M1 → Addr} {pre : M1 → List PyData → Prop} {post : M1 → List PyData → Rk → M1 → Prop} {bad : M1 → List PyData → Addr → Prop}
def notL : Rk → Prop
  | .l _ => False
  | _ => True
/-- a result in a part is one in the whole -/
theorem rel_part {F1' F' : AP} {H H' B' : Hp} {v : V} {r : Rk} (hn : ∀ x, F' x → ¬ F1' x → H x ≠ none) (h : RelR K H F1' H' B' v r) (hl : notL r) : RelR K H F' H' B' v r := by
  cases r with
  | d x => exact h
  | o xs =>
    obtain ⟨p, vs, rfl, g1, g2, g3, g4, g5⟩ := h
    exact ⟨p, vs, rfl, g1, g2, fun z => hn p z g3 g4, g4, g5⟩
  | l xs => exact hl.elim
  | v x => exact h
  | c x => exact h
theorem we_methP (L : Part R R1 get set) {C : Addr} {mm : Str} {E' : XK} {i : Nat} (hc : ClsAt R1 at_ C mm) (hi : ρ[i]? = some (.v (.ref (at_ (get m)))))
    (h : WA R K E XP ρ m tr fun rs m1 => ∃ ds, DLo rs = some ds ∧ at_ (get m1) = at_ (get m) ∧ pre (get m1) ds ∧ (∀ D, ¬ bad (get m1) ds D) ∧ ∀ r m2, post (get m1) ds r m2 → notL r ∧ k r (set m1 m2)) : WE R K E XP ρ m (tMeth C mm (spM R1 K at_ pre post bad) [] E' (tVar i) tr) k := by
  unfold WE
  intro F0 H0 B0 F H B σ D Q q
  obtain ⟨w, h1, h2⟩ := D.s i _ hi
  cases (show w = some (.ref (at_ (get m))) from h2)
  obtain ⟨F1, r1, _, _⟩ := L.on D.r
  obtain ⟨dx, fs, h3, h4⟩ := hc r1
  refine ⟨_, h1, at_ (get m), dx, fs, rfl, h3, h4, wa_data h D _ fun vs ds m1 F1 H1 B1 ⟨ea, hp, hn, hk⟩ D1 q1 hd => ?_⟩
  obtain ⟨F2, r2, i2, c2⟩ := L.on D1.r
  refine ⟨get m1, vs, ds, F2, B1, by rw [List.append_nil, ea], hd, D1.st.s, r2, hp, fun v r m' F' H' B' hr st rl rel => ?_, fun C F' H' B' hb => absurd hb (hn C)⟩
  obtain ⟨F3, r3, st3, n3⟩ := c2 m' F' H' B' st rl
  obtain ⟨nl, hkr⟩ := hk r m' hr
  exact q v r _ F3 H' B' hkr (D1.step st3 r3) (q1.trans st3) ((rel_part n3 rel nl).base fun x hx => q1.e x hx)
/-- a field of the thing of a part -/
theorem we_fldP (L : Part R R1 get set) {C : Addr} {f : Str} {v : V} {i : Nat} (hC : Cls K C) (hN : NoAttr K C f) (hi : ρ[i]? = some (.v (.ref (at_ (get m)))))
    (hf : ∀ {F H B}, R1.rel (get m) F H B → ∃ dx fs, H (at_ (get m)) = some (.ins C dx fs) ∧ fs.lookup f = some v) (hs : isSc v = true) (hk : k (.d (sc v)) m) : WE R K E XP ρ m (tFld K (tVar i) f) k := by
  unfold WE
  intro F0 H0 B0 F H B σ D Q q
  obtain ⟨w, h1, h2⟩ := D.s i _ hi
  cases (show w = some (.ref (at_ (get m))) from h2)
  obtain ⟨F1, r1, _, _⟩ := L.on D.r
  obtain ⟨dx, fs, h3, h4⟩ := hf r1
  exact ⟨_, h1, at_ (get m), C, dx, fs, v, rfl, h3, hC, hN, h4, q v (.d (sc v)) m _ _ _ hk D (.refl D.st.s) (dq_sc hs)⟩
/-- a def of a part, seen by the whole -/
theorem we_callAP (L : Part R R1 get set) {E' : XK} {preA : M1 → List Rk → Prop} {postA : M1 → List Rk → Rk → M1 → Prop} (h : WA R K E XP ρ m tr fun rs m1 => (rs.map asL).all argOk = true ∧ preA (get m1) (rs.map asL) ∧ ∀ r m2, postA (get m1) (rs.map asL) r m2 → notL r ∧ k r (set m1 m2)) : WE R K E XP ρ m (tCall (spA R1 K preA postA) [] E' tr) k := by
  unfold WE WA at *
  intro F0 H0 B0 F H B σ D Q q
  refine h D _ fun vs rs m1 F1 H1 B1 ⟨ha, hp, hk⟩ D1 q1 r1 => ?_
  rw [List.append_nil]
  obtain ⟨F2, r2, i2, c2⟩ := L.on D1.r
  have hA : ∀ {vs : List V} {rs : List Rk}, RelA K H F1 H1 B1 vs rs → RelA K H1 F2 H1 B1 vs (rs.map asL) := fun {vs rs} => by
    induction rs generalizing vs with
    | nil => intro h; cases vs <;> first | exact True.intro | exact h.elim
    | cons r rs ih =>
      intro h
      cases vs with
      | nil => exact h.elim
      | cons v vs =>
        refine ⟨?_, ih h.2⟩
        have h1 := h.1
        cases r with
        | d x => exact h1
        | o xs => obtain ⟨p, us, rfl, g1, _, g3, _, g5⟩ := h1; exact ⟨p, us, rfl, g1, fun z => g3 (i2 p z), g5⟩
        | l xs => obtain ⟨p, us, rfl, g1, g3, g5⟩ := h1; exact ⟨p, us, rfl, g1, fun z => g3 (i2 p z), g5⟩
        | v x => exact h1
        | c x => exact h1
  refine ⟨get m1, rs.map asL, F2, B1, hA r1, ha, D1.st.s, r2, hp, fun v r m' F' H' B' hr st rl rel => ?_⟩
  obtain ⟨F3, r3, st3, n3⟩ := c2 m' F' H' B' st rl
  obtain ⟨nl, hkr⟩ := hk r m' hr
  exact q v r _ F3 H' B' hkr (D1.step st3 r3) (q1.trans st3) ((rel_part n3 rel nl).base fun x hx => q1.e x hx)
end
/-! ## a part that begins in the middle -/
section
variable {M1 M2 : Type} {R1 : MR M1} {R2 : MR M2} {K : PySem.W.Frag} {E : XK} {XP : Addr → M1 → Prop} {ρ : List Sl} {m : M1} {m2 : M2} {F0 F : AP} {H0 B0 H B : Hp} {σ : L2.St}
/-- the second part is forgotten -/
theorem DS.fst {XP' : Addr → M1 × M2 → Prop} (D : DS (prM R1 R2) K E XP' F0 H0 B0 F H B σ ρ (m, m2)) (hx : ∀ C m' F' H' B', XP C m' → Stq F0 H0 B0 F' H' B' → R1.rel m' F' H' B' → E (.ref C) none H') : ∃ F1, DS R1 K E XP F0 H0 B0 F1 H B σ ρ m := by
  obtain ⟨F1, F2, h, d, r1, r2⟩ := D.r
  have sub : ∀ x, F1 x → F x := fun x z => (h x).mpr (.inl z)
  refine ⟨F1, D.l, ⟨D.st.b, D.st.s, D.st.f, D.st.k, fun x hx hn z => D.st.n x hx hn (sub x z), D.st.e⟩, r1, fun i t ht => ?_, D.oo, hx⟩
  obtain ⟨w, h1, h2⟩ := D.s i t ht
  refine ⟨w, h1, ?_⟩
  cases t with
  | u => exact True.intro
  | d x => exact h2
  | o xs => obtain ⟨p, vs, rfl, g1, g2, g3, g4, g5⟩ := h2; exact ⟨p, vs, rfl, g1, g2, fun z => g3 (sub p z), g4, g5⟩
  | v x => exact h2
  | l xs => obtain ⟨p, vs, rfl, g1, g3, g4, g5⟩ := h2; exact ⟨p, vs, rfl, g1, fun z => g3 (sub p z), g4, g5⟩
theorem rel_fst {F' F1 : AP} {H' B' : Hp} {v : V} {r : Rk} (sub : ∀ x, F1 x → F' x) (h : RelR K H0 F' H' B' v r) : RelR K H0 F1 H' B' v r := by
  cases r with
  | d x => exact h
  | o xs => obtain ⟨p, vs, rfl, g1, g2, g3, g4, g5⟩ := h; exact ⟨p, vs, rfl, g1, g2, fun z => g3 (sub p z), g4, g5⟩
  | l xs => obtain ⟨p, vs, rfl, g1, g3, g5⟩ := h; exact ⟨p, vs, rfl, g1, fun z => g3 (sub p z), g5⟩
  | v x => exact h
  | c x => exact h
/-- what follows knows of a second part, made since the def began -/
theorem ws_part {u : TS} {nx bk ct : List Sl → M1 → Prop} {rt : Rk → M1 → Prop} (body : WS (prM R1 R2) K E (fun C x => XP C x.1) ρ (m, m2) u (fun ρ' x => nx ρ' x.1) (fun r x => rt r x.1) (fun ρ' x => bk ρ' x.1) (fun ρ' x => ct ρ' x.1))
    (Ds : Ends) {F2 : AP} (D : DS R1 K E XP F0 H0 B0 F H B σ ρ m) (r2 : R2.rel m2 F2 H B) (h0 : ∀ x, F2 x → H0 x = none) (hF : ∀ x, F2 x → ¬ F x) (hL : ∀ x xs, F2 x → H x ≠ some (.lst xs))
    (n : ∀ {σ' ρ' m' F' H' B'}, nx ρ' m' → DS R1 K E XP F0 H0 B0 F' H' B' σ' ρ' m' → Same B B' → Ds.nx σ' H')
    (rr : ∀ {v r m' F' H' B'}, rt r m' → Stq F0 H0 B0 F' H' B' → R1.rel m' F' H' B' → RelR K H0 F' H' B' v r → Ds.rt v H')
    (bb : ∀ {σ' ρ' m' F' H' B'}, bk ρ' m' → DS R1 K E XP F0 H0 B0 F' H' B' σ' ρ' m' → Same B B' → Ds.bk σ' H')
    (cc : ∀ {σ' ρ' m' F' H' B'}, ct ρ' m' → DS R1 K E XP F0 H0 B0 F' H' B' σ' ρ' m' → Same B B' → Ds.ct σ' H') : u Ds σ H := by
  have hs : ∀ (p : Addr) (vs : List V), H p = some (.lst vs) → ¬ F p → ¬ (F p ∨ F2 p) := fun p vs e n z => z.elim n fun z => hL p vs z e
  have DD : DS (prM R1 R2) K E (fun C x => XP C x.1) F0 H0 B0 (fun x => F x ∨ F2 x) H B σ ρ (m, m2) := by
    refine ⟨D.l, ⟨D.st.b, D.st.s, D.st.f, D.st.k, fun x hx hn z => z.elim (D.st.n x hx hn) fun z => hx (h0 x z), D.st.e⟩, ⟨F, F2, fun _ => Iff.rfl, fun x a b => hF x b a, D.r, r2⟩, fun i t ht => ?_, D.oo, fun C x F' H' B' hx st rl => ?_⟩
    · obtain ⟨w, h1, h2⟩ := D.s i t ht
      refine ⟨w, h1, ?_⟩
      cases t with
      | u => exact True.intro
      | d x => exact h2
      | o xs => obtain ⟨p, vs, rfl, g1, g2, g3, g4, g5⟩ := h2; exact ⟨p, vs, rfl, g1, g2, hs p vs g1 g3, g4, g5⟩
      | v x => exact h2
      | l xs => obtain ⟨p, vs, rfl, g1, g3, g4, g5⟩ := h2; exact ⟨p, vs, rfl, g1, hs p vs g1 g3, g4, g5⟩
    · obtain ⟨F1, F2', h, d, r1, _⟩ := rl
      exact D.x C x.1 F1 H' B' hx ⟨st.b, st.s, st.f, st.k, fun y hy hn z => st.n y hy hn ((h y).mpr (.inl z)), st.e⟩ r1
  unfold WS at body
  refine body Ds DD (fun {σ' ρ' m' F' H' B'} hk D' s' => ?_) (fun {v r m' F' H' B'} hk st rl rel => ?_) (fun {σ' ρ' m' F' H' B'} hk D' s' => ?_) (fun {σ' ρ' m' F' H' B'} hk D' s' => ?_)
  · obtain ⟨F1, D1⟩ := D'.fst (XP := XP) D.x
    exact n hk D1 s'
  · obtain ⟨F1, F2', h, d, r1, _⟩ := rl
    have sub : ∀ x, F1 x → F' x := fun x z => (h x).mpr (.inl z)
    exact rr hk ⟨st.b, st.s, st.f, st.k, fun y hy hn z => st.n y hy hn (sub y z), st.e⟩ r1 (rel_fst sub rel)
  · obtain ⟨F1, D1⟩ := D'.fst (XP := XP) D.x
    exact bb hk D1 s'
  · obtain ⟨F1, D1⟩ := D'.fst (XP := XP) D.x
    exact cc hk D1 s'
end
/-! ## a dict of the law's own: keys texts or ints, values data -/
abbrev KD := List (Key × PyData)
inductive KRel (K : PySem.W.Frag) (B : Hp) : List (Key × V) → KD → Prop
  | nil : KRel K B [] []
  | cons {k : Key} {v : V} {d : PyData} {us : List (Key × V)} {ks : KD} : Dq K B v d → KRel K B us ks → KRel K B ((k, v) :: us) ((k, d) :: ks)
def lkK (ks : KD) (k : Key) : Option PyData := (ks.find? fun z => decide (z.1 = k)).map Prod.snd
def putKD (ks : KD) (k : Key) (d : PyData) : KD := if (ks.any fun z => decide (z.1 = k)) = true then ks.map (fun z => if z.1 = k then (z.1, d) else z) else ks ++ [(k, d)]
def mergeD (ks more : KD) : KD := more.foldl (fun acc z => putKD acc z.1 z.2) ks
section
variable {K : PySem.W.Frag} {B B' : Hp}
theorem KRel.same (s : Same B B') : ∀ {us : List (Key × V)} {ks : KD}, KRel K B us ks → KRel K B' us ks
  | _, _, .nil => .nil
  | _, _, .cons h t => .cons (dq_same s _ h) (t.same s)
theorem KRel.length : ∀ {us : List (Key × V)} {ks : KD}, KRel K B us ks → us.length = ks.length
  | _, _, .nil => rfl
  | _, _, .cons _ t => by rw [List.length_cons, List.length_cons, t.length]
theorem KRel.keys : ∀ {us : List (Key × V)} {ks : KD}, KRel K B us ks → us.map Prod.fst = ks.map Prod.fst
  | _, _, .nil => rfl
  | _, _, .cons _ t => by rw [List.map_cons, List.map_cons, t.keys]
theorem KRel.get (k : Key) : ∀ {us : List (Key × V)} {ks : KD}, KRel K B us ks → (valV us k = none ∧ lkK ks k = none) ∨ ∃ v d, valV us k = some v ∧ lkK ks k = some d ∧ Dq K B v d
  | _, _, .nil => .inl ⟨rfl, rfl⟩
  | _, _, .cons (k := k') (v := v) (d := d) h t => by
    unfold valV lkK
    rw [List.find?_cons, List.find?_cons]
    by_cases e : k' = k
    · rw [decide_eq_true e]
      exact .inr ⟨v, d, rfl, rfl, h⟩
    · rw [decide_eq_false e]
      exact t.get k
theorem KRel.has (k : Key) : ∀ {us : List (Key × V)} {ks : KD}, KRel K B us ks → (us.any fun z => decide (z.1 = k)) = (ks.any fun z => decide (z.1 = k))
  | _, _, .nil => rfl
  | _, _, .cons _ t => by rw [List.any_cons, List.any_cons, t.has k]
theorem KRel.app {k : Key} {v : V} {d : PyData} (h : Dq K B v d) : ∀ {us : List (Key × V)} {ks : KD}, KRel K B us ks → KRel K B (us ++ [(k, v)]) (ks ++ [(k, d)])
  | _, _, .nil => .cons h .nil
  | _, _, .cons a t => .cons a (t.app h)
theorem KRel.set {k : Key} {v : V} {d : PyData} (h : Dq K B v d) : ∀ {us : List (Key × V)} {ks : KD}, KRel K B us ks → KRel K B (us.map fun z => if z.1 = k then (z.1, v) else z) (ks.map fun z => if z.1 = k then (z.1, d) else z)
  | _, _, .nil => .nil
  | _, _, .cons (k := k') a t => by
    rw [List.map_cons, List.map_cons]
    by_cases e : k' = k
    · rw [if_pos e, if_pos e]; exact .cons h (t.set h)
    · rw [if_neg e, if_neg e]; exact .cons a (t.set h)
theorem KRel.put {us : List (Key × V)} {ks : KD} (t : KRel K B us ks) (k : Key) {v : V} {d : PyData} (h : Dq K B v d) : KRel K B (putK us k v) (putKD ks k d) := by
  unfold putK putKD
  rw [t.has k]
  split
  · exact t.set h
  · exact t.app h
theorem KRel.merge : ∀ {ws : List (Key × V)} {ms : KD} {us : List (Key × V)} {ks : KD}, KRel K B ws ms → KRel K B us ks → KRel K B (mergeK us ws) (mergeD ks ms)
  | _, _, _, _, .nil, h => h
  | _, _, _, _, .cons (k := c) a t, h => by
    have z := KRel.merge t (h.put c a)
    exact z
end
def dicR (K : PySem.W.Frag) : MR (Addr × KD) where
  rel := fun m F H B => (∃ us, H m.1 = some (.dK us) ∧ KRel K B us m.2) ∧ (∀ x, F x ↔ x = m.1) ∧ B m.1 = none
  frame := fun {m F H B H' B'} ⟨⟨us, h1, h2⟩, h3, h4⟩ e s n => ⟨⟨us, by rw [e _ ((h3 _).mpr rfl)]; exact h1, h2.same s⟩, h3, n _ ((h3 _).mpr rfl)⟩
  dom := fun {m F H B x} ⟨⟨us, h1, _⟩, h3, h4⟩ hx => by rw [(h3 x).mp hx]; exact ⟨by rw [h1]; simp, h4⟩
section
variable {M : Type} {R : MR M} {K : PySem.W.Frag} {E : XK} {XP : Addr → M → Prop} {ρ : List Sl} {m : M} {k : Rk → M → Prop} {te td ty : TE}
/-- the pairs of a dict that is written down -/
@[irreducible] def WPs (R : MR M) (K : PySem.W.Frag) (E : XK) (XP : Addr → M → Prop) (ρ : List Sl) (m : M) (trs : List (TE × TE)) (k : KD → M → Prop) : Prop := ∀ {F0 H0 B0 F H B σ}, DS R K E XP F0 H0 B0 F H B σ ρ m → ∀ Q : List (V × V) → Hp → Prop,
  (∀ us ks m' F' H' B', k ks m' → DS R K E XP F0 H0 B0 F' H' B' σ ρ m' → Stq F H B F' H' B' → KRel K B' us ks → Q (us.map fun z => (kV z.1, z.2)) H') → tPairs trs σ H Q
theorem wp_nil {k : KD → M → Prop} (hk : k [] m) : WPs R K E XP ρ m [] k := by with_unfolding_all exact (fun D Q q => q [] [] m _ _ _ hk D (.refl D.st.s) .nil)
def kOf : PyData → Key
  | .int i => .inl i
  | .str z => .inr z
  | _ => .inl 0
def isKd : PyData → Bool
  | .int _ => true
  | .str _ => true
  | _ => false
theorem kOf_v {B : Hp} {v : V} {d : PyData} (h : Dq K B v d) (e : isKd d = true) : v = kV (kOf d) := by
  cases h <;> first | rfl | cases e
theorem wp_cons {trs : List (TE × TE)} {k : KD → M → Prop} (h : WE R K E XP ρ m td fun a m1 => ∃ d, a = .d d ∧ isKd d = true ∧ WE R K E XP ρ m1 te fun b m2 => ∃ x, b = .d x ∧ WPs R K E XP ρ m2 trs fun ks m3 => k ((kOf d, x) :: ks) m3) : WPs R K E XP ρ m ((td, te) :: trs) k := by with_unfolding_all exact (fun D Q q =>
  h D _ fun v a m1 F1 H1 B1 ⟨d, e1, e2, k1⟩ D1 q1 r1 => by
    subst e1
    obtain rfl := kOf_v r1 e2
    exact k1 D1 _ fun w b m2 F2 H2 B2 ⟨x, e3, k2⟩ D2 q2 r2 => by
      subst e3
      exact k2 D2 _ fun us ks m3 F3 H3 B3 k3 D3 q3 r3 => q ((kOf d, w) :: us) ((kOf d, x) :: ks) m3 F3 H3 B3 k3 D3 ((q1.trans q2).trans q3) (.cons (dq_same q3.b _ r2) r3))
/-- name = {..}: what follows knows the dict -/
theorem ws_dict {trs : List (TE × TE)} {u : TS} {i : Nat} {nx bk ct : List Sl → M → Prop} {rt : Rk → M → Prop} (h : WPs R K E XP ρ m trs fun ks m1 => ks.length ≤ 15 ∧ ∀ p, WS (prM R (dicR K)) K E (fun C x => XP C x.1) (ρ.set i (.v (.ref p))) (m1, (p, mergeD [] ks)) u (fun ρ' x => nx ρ' x.1) (fun r x => rt r x.1) (fun ρ' x => bk ρ' x.1) (fun ρ' x => ct ρ' x.1)) :
    WS R K E XP ρ m (tSeq (tAsg (tDisp trs) (gName i)) u) nx rt bk ct := by
  unfold WPs at h
  unfold WS
  intro F0 H0 B0 F H B σ Ds D n r b c
  intro p hp
  have hp0 : H0 p = none := Classical.byContradiction fun z => D.st.e p z hp
  refine h (D.newO (o := .dK []) hp) _ fun us ks m1 F1 H1 B1 ⟨hl, body⟩ D1 q1 hk => ?_
  have e1 : upd H p (.dK []) p = some (.dK []) := upd_same
  have nF : ¬ F p := D.nF hp
  have hb : B p = none := b_none D.st.s hp
  have g1 := q1.k _ _ e1 nF
  have g2 := q1.f p (by rw [e1]; simp) hb
  have g3 := q1.n p (by rw [e1]; simp) nF
  refine ⟨g1, us, rfl, by rw [hk.length]; exact hl, ?_⟩
  have hn : ∀ (i : Nat) (xs : List PyData), ρ[i]? = some (.o xs) → σ[i]? ≠ some (some (.ref p)) := fun i xs z w => by
    obtain ⟨w', w1, pp, vs, rfl, w2, _⟩ := D.s i _ z
    rw [w] at w1
    cases w1
    rw [hp] at w2
    cases w2
  have D2 : DS R K E XP F0 H0 B0 F1 (upd H1 p (.dK (mergeK [] us))) B1 σ ρ m1 := D1.putN g2 g3 hp0 hn
  have D3 : DS R K E XP F0 H0 B0 F1 (upd H1 p (.dK (mergeK [] us))) B1 (σ.set i (some (.ref p))) (ρ.set i (.v (.ref p))) m1 := D2.setW i rfl fun _ _ z => by cases z
  refine ws_part (R2 := dicR K) (m2 := (p, mergeD [] ks)) (body p) Ds D3 (F2 := fun x => x = p) ⟨⟨_, upd_same, KRel.merge hk .nil⟩, fun _ => Iff.rfl, g2⟩ (fun x hx => by rw [hx]; exact hp0) (fun x hx => by rw [hx]; exact g3) (fun x xs hx e => by rw [hx, upd_same] at e; cases e) (fun hk' D' s' => n hk' D' (q1.b.trans s')) r (fun hk' D' s' => b hk' D' (q1.b.trans s')) (fun hk' D' s' => c hk' D' (q1.b.trans s'))
/-- d[k] of such a dict -/
theorem we_dgetK {get : M → Addr × KD} {set : M → Addr × KD → M} (L : Part R (dicR K) get set) (h : WE R K E XP ρ m td fun a m1 => a = .v (.ref (get m1).1) ∧ WE R K E XP ρ m1 ty fun b m2 => (get m2).1 = (get m1).1 ∧ ∃ d, b = .d d ∧ isKd d = true ∧ ∃ x, lkK (get m2).2 (kOf d) = some x ∧ k (.d x) m2) : WE R K E XP ρ m (tDGet td ty) k := by
  unfold WE at h ⊢
  intro F0 H0 B0 F H B σ D Q q
  refine h D _ fun v a m1 F1 H1 B1 ⟨e1, k1⟩ D1 q1 r1 => ?_
  subst e1
  cases (show v = .ref (get m1).1 from r1)
  refine k1 D1 _ fun w b m2 F2 H2 B2 ⟨e2, d, e3, e4, x, e5, k2⟩ D2 q2 r2 => ?_
  subst e3
  obtain rfl := kOf_v r2 e4
  obtain ⟨F3, ⟨⟨us, g1, g2⟩, _⟩, _⟩ := L.on D2.r
  rcases g2.get (kOf d) with ⟨_, z⟩ | ⟨u, d', z1, z2, z3⟩
  · rw [e5] at z; cases z
  · rw [e5] at z2
    cases z2
    refine ⟨(get m1).1, u, rfl, ?_, q u (.d x) m2 F2 H2 B2 k2 D2 (q1.trans q2) z3⟩
    rw [← z1]
    rw [e2] at g1
    exact DGet.k g1
end
end My
namespace My
open PySem PySem.Spec PyProof.Rows L2
/-! # sorted(t, key=lambda m: m[:2]) -/
section
open PySem.W PyProof.Rows HT
variable {prog : Program} {w : World} {B : Around} {s : Shared}
/-- the lambda's call: a new tuple of the first two, or the tuple itself -/
theorem lam_run {f c' a : Addr} {q x : Str} {params : Arguments} {scope : Scope} {pm ctv : Value} {p1 p2 p3 p4 : Pos} {j : _} {its : Array Value}
    (hroom : B.depth < recursionLimit) (lim : s.heap.NoLimit)
    (hf : s.heap.get? f = some (kla_obj "<lambda>" q params (.Subscript (.Name x p1) (.Slice none (some (.Constant (.int 2) j p2)) none p3) p4) scope [] pm c' ctv))
    (hcd : s.heap.CodeRec (.ref c') q) (hbind : ∀ u, bindArgs (kla_fn "<lambda>" q params (.Subscript (.Name x p1) (.Slice none (some (.Constant (.int 2) j p2)) none p3) p4) scope [] pm (.ref c') ctv) ⟨[u], []⟩ = pure [(x, u)])
    (hnm : scope.names = [(x, .local)]) (hk : scope.kind = .function) (hco : scope.isCoroutine = false) (hgen : scope.isGenerator = false) (hdb : (x == ("__debug__" : Str)) = false)
    (ht : IsTup s.heap a its) (hsz : its.size ≤ sizeLine) {Q : Value → Shared → Prop}
    (hQ : ∀ h' tk, (∀ b o, s.heap.get? b = some o → h'.get? b = some o) →
      (∀ r, (r = a ∧ its.size ≤ 2) ∨ (IsTup h' r (its.toList.take 2).toArray) → Q (.ref r) { s with heap := h', toks := tk })) :
    wpAny (model prog w) B (call (.ref f) [.ref a]) Q (fun _ _ => False) s := by
  refine wpAny_call ?_
  refine kla_callFunE hroom hf rfl hco hgen rfl hcd ?_
  rw [hbind]
  refine wpAny_pure (wpAny_newFunctionEnv (fun y hy => ?_) (fun y hy => ?_) (fun h₁ hns hsb => ⟨lim.fresh _ hsb, ?_⟩) hk)
  · rw [hnm] at hy
    rw [List.mem_singleton.mp hy]
    exact fun z => NameKind.noConfusion z
  · rw [List.mem_singleton.mp hy, hnm]
    simp
  have hk₁ : ∀ b o, s.heap.get? b = some o → h₁.get? b = some o := fun b o e =>
    hsb.extBut b o (Nat.ne_of_lt (Heap.lt_size e)) (Heap.get?_push_of_some _ e)
  refine kla_codeExpr ?_
  refine Subscript_ (wpAny_Name (wpAny_loadName_local hk (show scope.names.lookup x = some .local by rw [hnm]; simp) hns (show List.lookup x [(x, Value.ref a)].reverse = some (.ref a) by simp) ?_) hdb)
  refine wpAny_Slice ?_
  rw [evalPart_none]
  refine wpAny_pure ?_
  show wpAny _ _ (eval (.Constant (.int 2) j p2) _) _ _ _
  refine wpAny_Constant_int ?_
  refine wpAny_pure ?_
  generalize hsl : h₁.push { cls := .type "slice", data := .fields #[Value.none, Value.int 2 (s.toks + [(x, Value.ref a)].length), Value.none] } = h₂
  have e1 : ∀ b o, h₁.get? b = some o → h₂.get? b = some o := fun b o e => by rw [← hsl]; exact Heap.get?_push_of_some _ e
  have ht2 : IsTup h₂ a its := by
    obtain ⟨o, h1, h2⟩ := ht
    exact ⟨o, e1 _ _ (hk₁ _ _ h1), h2⟩
  have hS : h₂.IsSliceOf h₁.objs.size .none (.int 2 (s.toks + [(x, Value.ref a)].length)) .none := by rw [← hsl]; exact Heap.IsSliceOf.new ..
  have keep : ∀ b o, s.heap.get? b = some o → h₂.get? b = some o := fun b o e => e1 _ _ (hk₁ _ _ e)
  refine tail_any (T := "tuple") (ops := [.ref h₁.objs.size, .ref a]) ht2.typeIs PyProof.Rows.slot_tuple_getitem.lookup ?_ (by with_unfolding_all rfl)
  by_cases hw : sIx its.size 0 none = 0 ∧ sIx its.size its.size (some 2) = its.size
  · refine getItem_tuple_whole ht2 hS .none (.int 2 _) hw ?_
    refine hQ h₂ _ keep a (.inl ⟨rfl, ?_⟩)
    have h2 := hw.2
    rw [show (some 2 : Option Int) = some ((2 : Nat) : Int) from rfl, sIx_nat] at h2
    omega
  · refine getItem_tuple_cut ht2 hS .none (.int 2 _) hw ?_ hsz
    have e2 : sIx its.size its.size (some 2) - sIx its.size 0 none = min 2 its.size := by
      rw [show (some 2 : Option Int) = some ((2 : Nat) : Int) from rfl, sIx_nat]; rfl
    rw [e2]
    show Q _ { s with heap := _, toks := _ }
    refine hQ _ _ (fun b o e => Heap.get?_push_of_some _ (keep b o e)) _ (.inr ?_)
    have e3 : (its.toList.drop (sIx its.size 0 none)).take (min 2 its.size) = its.toList.take 2 := by
      show (its.toList.drop 0).take _ = _
      rw [List.drop_zero]
      by_cases h : 2 ≤ its.size
      · rw [Nat.min_eq_left h]
      · rw [Nat.min_eq_right (by omega), List.take_of_length_le (by simp), List.take_of_length_le (by simp; omega)]
    rw [e3]
    exact IsTup.new _ _
end
section
open PySem.W PyProof.Rows HT
variable {prog : Program} {w : World} {A : Around} {E : Value → Shared → Prop} {s : Shared}
/-- the heap behind the gathering of a tuple's items us -/
def gath (g : Heap) (us : List Value) : Heap := (g.push (seqObj "list" #[] 0)).update g.objs.size (Obj.mapSeq (· ++ us.toArray))
theorem gath_size (g : Heap) (us : List Value) : (gath g us).objs.size = g.objs.size + 1 := (Heap.size_update ..).trans (size_push' ..)
theorem tup_gather {t : Addr} {us : List Value} {R : List Value → Shared → Prop} (ht : IsTup s.heap t us.toArray) (hn : us.length ≤ sizeLine) (hR : R us { s with heap := gath s.heap us }) :
    wpAny (model prog w) A (collect (.ref t)) R E s := by
  obtain ⟨ob, e1, e2, m, e3⟩ := id ht
  have f1 := Heap.get?_push_of_some (seqObj "list" #[] 0) e1
  have f2 : (s.heap.push (seqObj "list" #[] 0)).get? s.heap.objs.size = some (seqObj "list" #[] 0) := Heap.get?_push_size _ rfl
  unfold collect
  refine wpAny_bind (wpAny_runValue (codeAny_builtin entry_proto_collect' ?_)); show wpAny _ _ (do again (.builtin "list.__iadd__" ⟨[← newList [], .ref t], []⟩)) _ _ s
  refine wpAny_bind (wpAny_newList (wpAny_pure ⟨Code.quiet_builtin _ (by decide +kernel), codeAny_builtin entry_list_iadd' ?_⟩)); show wpAny _ _ (Builtin.List.listExtendWith (.ref s.heap.objs.size) (.ref t) _) _ _ _
  unfold Builtin.List.listExtendWith
  refine wpAny_bind (wpAny_typeOf (T := "tuple") ⟨ob, f1, e2⟩ ?_)
  rw [if_pos (by rw [show (Value.type "tuple" == Value.type "tuple") = true from rfl]; simp)]
  refine wpAny_bind (listItems_at f1 e3 (wpAny_bind (listItems_at (xs := #[]) (n := 0) f2 rfl ?_)))
  rw [if_neg (by simp)]
  refine wpAny_bind (listUpdate_at (xs := #[]) (n := 0) f2 rfl ?_ (Nat.zero_le _) (by show (#[] ++ us.toArray).size ≤ sizeLine + 1; rw [Array.size_append, List.size_toArray]; show 0 + us.length ≤ _; omega))
  refine wpAny_pure (wpAny_bind (wpAny_load (get?_update_seq f2 _) ?_))
  show wpAny _ _ (pure ((#[] : Array Value) ++ us.toArray).toList) R E { s with heap := gath s.heap us }
  simp only [Array.empty_append]
  exact wpAny_pure hR
/-- sorted(t, key=f) of a tuple t: f's calls keep what stands -/
theorem sorted_key_tup {β : Type} {us : List Value} {bs : List β} {R : Value → β → Prop} {t f : Addr} {Q : Value → Shared → Prop} (k : β → PyData) (ht : IsTup s.heap t us.toArray) (e : EachIs R us bs) (hal : AllAlike (bs.map k)) (hk : Sortable (bs.map k)) (hL : bs.length ≤ sizeLine)
    (hu : ∀ x ∈ bs, A.in1.in1.units + (k x).depth < cLine)
    (turn : ∀ v x, R v x → x ∈ bs → ∀ g tk, (∀ b o, s.heap.get? b = some o → g.get? b = some o) → wpAny (model prog w) A.in1.in1 (call (.ref f) [v]) (KeyPure (k x) { s with heap := g, toks := tk }) (fun _ _ => False) { s with heap := g, toks := tk })
    (fin : ∀ out c g tk, (∀ b o, s.heap.get? b = some o → g.get? b = some o) → g.get? (s.heap.objs.size + 1) = some (seqObj "list" (List.toArray out) c) → EachIs R out (bs.mergeSort (dataLe false k)) → Q (.ref (s.heap.objs.size + 1)) { s with heap := g, toks := tk }) :
    wpAny (model prog w) A (call (.builtin "sorted") [.ref t] [(Str.ofString "key", .ref f)]) Q E s := by
  have hn : us.length ≤ sizeLine := e.length ▸ hL
  have hnb : (bs.map k).length = us.length := (List.length_map _).trans e.length.symm
  have at1 : (copyHeap s.heap us).get? (s.heap.objs.size + 1) = some (seqObj "list" us.toArray 0) := copyHeap_at s.heap us
  have grow : ∀ {g}, KeepsBut (s.heap.objs.size + 1) (copyHeap s.heap us) g → ∀ b o, s.heap.get? b = some o → g.get? b = some o := fun kp b o q => kp b o (Nat.ne_of_lt (Nat.lt_trans (Heap.lt_size q) (Nat.lt_succ_self _))) (copyHeap_old q)
  refine call_function_entry_kw kind_sorted plain_sorted entry_sorted (ksk_s1 _ _) ?_
  unfold Builtin.«sorted»
  refine wpAny_bind (m := checkCount "sorted" 1 1 _) (wpAny_pure (wpAny_bind (tup_gather ht hn (wpAny_bind (wpAny_newList ?_ hn)))))
  show wpAny _ _ _ _ _ ({ s with heap := copyHeap s.heap us } : Shared)
  rw [gath_size]
  refine wpAny_bind (wpAny_holding (wpAny_call_entry_kw slot_list_sort ⟨_, at1, rfl⟩ entry_list_sort ?_ (ksk_l1 _ _)))
  show wpAny (model prog w) A.in1.in1 (Builtin.«list.sort» ⟨[.ref (s.heap.objs.size + 1)], [(Str.ofString "key", .ref f)]⟩) _ _ _
  rw [ksk_t1]
  refine keyH_tree (s := { s with heap := copyHeap s.heap us }) at1 hnb hn hal hk (fun d hd => ?_) (keyH_turns (s := { s with heap := copyHeap s.heap us }) e fun v x hR hx g tk kp => turn v x hR hx g tk (grow kp)) fun g tk out c kp hD ko => ?_
  · obtain ⟨x, hx, rfl⟩ := List.mem_map.mp hd
    exact hu x hx
  · exact ⟨_, rfl, wpAny_pure ⟨_, rfl, fin out c g tk (grow kp) hD (keyedOut_each k ko e)⟩⟩
end
section
open PySem.W PyProof.Rows HT LamX
/-- a key: the first two of a tuple -/
def key2 : PyData → PyData
  | .tuple xs => .tuple (xs.take 2)
  | d => d
def sort2 (xs : List V) (bs : List PyData) : List (V × PyData) := (xs.zip bs).mergeSort (dataLe false fun z => key2 z.2)
def Two (d : PyData) : Prop := ∃ y z r, d = .tuple (.str y :: .str z :: r)
/-- all but the table at P stays -/
def ExtP (P : Addr) (H H' : Hp) : Prop := ∀ b o, b ≠ P → H b = some o → H' b = some o
/-- the table has what it had, and new code -/
def TabG (P : Addr) (H H' : Hp) : Prop := ∃ ps ps' : Array Value, H P = some (.tbl ps) ∧ H' P = some (.tbl ps') ∧ ∀ pos cv, codeAmong pos ps'.toList = some cv → codeAmong pos ps.toList = some cv ∨ ∃ c', cv = .ref c' ∧ H c' = none
theorem tabG_new {P : Addr} {H H' : Hp} {p : Addr} {o : HO} (g : TabG P H H') (h : H' p = none) : TabG P H (upd H' p o) := by
  obtain ⟨ps, ps', a, b, c⟩ := g
  exact ⟨ps, ps', a, by rw [upd_ne (fun z => by rw [z, h] at b; cases b)]; exact b, c⟩
theorem same_ext {P : Addr} {G H H' : Hp} (s : Same G H) (n : G P = none) (e : ExtP P H H') : Same G H' := fun b o h => e b o (fun z => by rw [z, n] at h; cases h) (s b o h)
/-- the lambda is made; all but its maker's table stays -/
theorem lam_makeP {X : Cx} {pins : List (Addr × Obj)} {σ : L2.St} {H : Hp} {s : Shared} {c P : Addr} {params : Arguments} {body : Expr} {scope : Scope} {pos : Pos} {E : Value → Shared → Prop} {Q : Value → Shared → Prop} (I : Inv X pins σ H s) (TB : TabB X.base X.mg c P) (hcode : X.env.code = .ref c)
    (hT : TabS H P (X.env.qual ++ "<lambda>")) (hdef : defaultsOf params X.env = ([], [])) (hfree : ∀ y ∈ scope.names, y.2 = .free → ∃ c, X.env.cells.lookup y.1 = some c)
    (h : ∀ (f c' : Addr) (pm ctv : Value) (H1 : Hp) (s' : Shared), Inv X pins σ H1 s' → ExtP P H H1 → TabG P H H1 → TabS H1 P (X.env.qual ++ "<lambda>") → s'.heap.get? f = some (kla_obj "<lambda>" (X.env.qual ++ "<lambda>") params body scope (cloFrom X.env.cells scope.names []) pm c' ctv) → H1 c' = some (CodeO c' (X.env.qual ++ "<lambda>")) → Q (.ref f) s') :
    wpAny (model X.prog X.w) X.A (eval (.Lambda params body scope pos) X.env) Q E s := by
  obtain ⟨ps, hP, hps, hco⟩ := hT
  have atP : s.heap.get? P = some { cls := .none, data := .fields ps } := I.hok P _ hP
  have bmP := TB.bm.keeps I.bk
  have cdP := TB.code.keeps I.bk
  refine kla_eval hdef ?_
  cases hc : codeAmong pos ps.toList with
  | some cv =>
    obtain ⟨c', rfl, hcc⟩ := hco pos cv hc
    refine kla_makeFunctionHit (mg := X.mg) (c := c) (P := P) (ps := ps) (closure_ok hfree) I.ok.glob (I.mod.glob.keeps I.bk) hcode cdP atP hps hc bmP fun ctv g tk hx _ => ?_
    exact h g.objs.size c' ((X.mg "__name__").getD .none) ctv H _ (I.kept (t' := tk) fun b o e => Heap.get?_push_of_some _ (hx b o e)) (fun _ _ _ e => e) ⟨ps, ps, hP, hP, fun _ _ e => .inl e⟩ ⟨ps, hP, hps, hco⟩ (Heap.get?_push_size _ rfl) hcc
  | none =>
    refine kla_makeFunction (mg := X.mg) (c := c) (P := P) (ps := ps) (closure_ok hfree) I.ok.glob (I.mod.glob.keeps I.bk) hcode cdP atP hps hc TB.gP bmP fun c' ctv g tk hx hge hlt hrec htb => ?_
    obtain ⟨c2, oc, us, t, e2, hoc, hd, hv⟩ := hrec
    cases e2
    have fresh : H c' = none := I.hok.fresh hge
    have cP : P ≠ c' := fun z => by rw [← z, hP] at fresh; cases fresh
    have J := inv_table (t' := tk) (more := #[rawInt pos.line, rawInt pos.col, .ref c']) (h' := g.push (kla_obj "<lambda>" (X.env.qual ++ "<lambda>") params body scope (cloFrom X.env.cells scope.names []) ((X.mg "__name__").getD .none) c' ctv)) I hP
      (fun b o hb e => Heap.get?_push_of_some _ (hx b o hb e)) (Heap.get?_push_of_some _ htb) hge ⟨oc, us, t, Heap.get?_push_of_some _ hoc, hd, hv⟩
    have ext : ExtP P H (upd (upd H P (.tbl (ps ++ #[rawInt pos.line, rawInt pos.col, .ref c']))) c' (CodeO c' (X.env.qual ++ "<lambda>"))) := fun b o hb e => by
      rw [upd_ne (ne_of_none e fresh), upd_ne hb]; exact e
    have eL : (ps ++ #[rawInt pos.line, rawInt pos.col, .ref c']).toList = ps.toList ++ [rawInt pos.line, rawInt pos.col, .ref c'] := by simp
    have grown : TabG P H (upd (upd H P (.tbl (ps ++ #[rawInt pos.line, rawInt pos.col, .ref c']))) c' (CodeO c' (X.env.qual ++ "<lambda>"))) := ⟨ps, _, hP, by rw [upd_ne cP, upd_same], fun p' cv hcv => by
      rw [eL] at hcv
      rcases among_app _ hps hcv with z | z
      · exact .inl z
      · exact .inr ⟨c', z, fresh⟩⟩
    refine h g.objs.size c' ((X.mg "__name__").getD .none) ctv _ _ J ext grown ⟨_, by rw [upd_ne cP, upd_same], by rw [eL]; exact TriplesOk_snoc _ _ _ _ hps, fun p' cv hcv => ?_⟩ (Heap.get?_push_size _ rfl) upd_same
    rw [eL] at hcv
    rcases among_app _ hps hcv with z | z
    · obtain ⟨c0, e1, e2⟩ := hco p' cv z
      exact ⟨c0, e1, ext _ _ (fun y => by rw [y, hP] at e2; cases e2) e2⟩
    · exact ⟨c', z, upd_same⟩
def tSortL (K : PySem.W.Frag) (P : Addr) (q : Str) (ta : TA) : TE := fun σ H Q => ta σ H fun vs H1 => ∃ a xs bs G, vs = [.ref a] ∧ SqT K G a xs ∧ DpAll K G xs bs ∧ Same G H1 ∧ G P = none ∧ (∀ d ∈ bs, Two d) ∧ TabS H1 P q ∧
  ∀ p H2, ExtP P H1 H2 → TabG P H1 H2 → TabS H2 P q → H2 p = none → Q (.ref p) (upd H2 p (.lst ((sort2 xs bs).map Prod.fst)))
/-- what is known of a member while it is sorted -/
def MemR (h : Heap) (v : Value) (z : V × PyData) : Prop := RelV z.1 v ∧ ∃ p its y u t1 t2, v = .ref p ∧ IsTup h p its ∧ its.size ≤ sizeLine ∧ its.toList.take 2 = [.str y t1, .str u t2] ∧ key2 z.2 = .tuple [.str y, .str u]
theorem memR_all {X : Cx} {pins : List (Addr × Obj)} {σ : L2.St} {H G : Hp} {s : Shared} (I : Inv X pins σ H s) (sG : Same G H) : ∀ {xs : List V} {bs : List PyData} {its : List Value}, Vals xs its → DpAll X.K G xs bs → (∀ d ∈ bs, Two d) → EachIs (MemR s.heap) its (xs.zip bs)
  | [], _, _, .nil, hd, _ => by
    cases hd
    exact .nil
  | x :: xs, _, _, .cons r rs, hd, ht => by
    cases hd with
    | cons h1 h2 =>
      rename_i d ds
      refine .cons ⟨r, ?_⟩ (memR_all I sG rs h2 fun e he => ht e (List.mem_cons_of_mem _ he))
      obtain ⟨y, u, r', rfl⟩ := ht d (List.mem_cons_self ..)
      cases h1 with
      | tup hs ha =>
        rename_i p us
        cases r
        obtain ⟨is, ri, hi, hz⟩ := I.tuple (sqt_same sG hs)
        cases ha with
        | cons a1 a2 =>
          cases a2 with
          | cons a3 a4 =>
            cases a1
            cases a3
            cases ri with
            | cons r1 r2 =>
              cases r2 with
              | cons r3 r4 =>
                obtain ⟨t1, rfl⟩ := r1
                obtain ⟨t2, rfl⟩ := r3
                exact ⟨p, _, y, u, t1, t2, rfl, hi, by rw [List.size_toArray]; have := r4.length; simp only [List.length_cons] at hz ⊢; omega, by simp, rfl⟩
theorem relv_out {h : Heap} : ∀ {out : List Value} {l : List (V × PyData)}, EachIs (MemR h) out l → Vals (l.map Prod.fst) out
  | _, _, .nil => .nil
  | _, _, .cons a b => .cons a.1 (relv_out b)
theorem pe_sortL {X : Cx} {c P : Addr} {q x : Str} {params : Arguments} {scope : Scope} {p0 p1 p2 p3 p4 pos lpos kpos : Pos} {j : Nat} {e : Expr} {ta : TA} (hr : Room 3 X.A) (hg : Gl X "sorted") (hm : X.mg "sorted" = none) (ha : PA X [e] ta)
    (TB : TabB X.base X.mg c P) (hcode : X.env.code = .ref c) (hq : X.env.qual ++ "<lambda>" = q) (hdef : defaultsOf params X.env = ([], []))
    (hnm : scope.names = [(x, .local)]) (hk : scope.kind = .function) (hco : scope.isCoroutine = false) (hgen : scope.isGenerator = false) (hdb : (x == ("__debug__" : Str)) = false)
    (hcl : cloFrom X.env.cells scope.names [] = [])
    (hbind : ∀ (q : Str) (pm ctv : Value) (c' : Addr) (u : Value), bindArgs (kla_fn "<lambda>" q params (.Subscript (.Name x p1) (.Slice none (some (.Constant (.int 2) j p2)) none p3) p4) scope [] pm (.ref c') ctv) ⟨[u], []⟩ = pure [(x, u)])
    (he : backTo pos (starEach [e] X.env) = (false, eval e X.env) :: backTo pos (starEach [] X.env) := by rfl) (hpl : (backTo pos (starEach [e] X.env)).any (·.1) = false := by rfl) :
    PE X (.Call (.Name "sorted" p0) [e] [⟨some "key", .Lambda params (.Subscript (.Name x p1) (.Slice none (some (.Constant (.int 2) j p2)) none p3) p4) scope lpos, kpos⟩] pos) (tSortL X.K P q ta) := by
  refine ⟨fun pins s σ H Q I h => ?_⟩
  have hv : bootBuiltins ("sorted" : Str) = some (.builtin "sorted") := by decide +kernel
  refine wpAny_Call_Name_kw (ld_blt I hg hm hv ?_ (by decide) (by decide))
  refine PyProof.Rows.callWith_kw (thn (ha.run pos pins s σ H _ I h) fun us s1 ⟨vs, H1, I1, r1, q1⟩ => ?_) he hpl (by rfl) (by rfl)
  obtain ⟨a, xs, bs, G, rfl, hS, hD, sG, nT, h2, hT, q2⟩ := q1
  obtain rfl := Vals.ref1 r1
  refine wpAny_evalAll_cons (wpAny_bind ?_)
  subst hq
  refine lam_makeP I1 TB hcode hT hdef (fun y hy e => by rw [hnm] at hy; rw [List.mem_singleton.mp hy] at e; cases e) fun f c' pm ctv H2 s2 I2 hE hG2 hT2 hf hco2 => ?_
  rw [hcl] at hf
  refine wpAny_bind (wpAny_standAt (wpAny_pure (wpAny_evalAll_nil ?_)))
  show wpAny _ _ (call (.builtin "sorted") [.ref a] [(Str.ofString "key", .ref f)]) _ _ s2
  have sG2 := same_ext sG nT hE
  obtain ⟨its, rI, hI, hz⟩ := I2.tuple (sqt_same sG2 hS)
  have hM := memR_all I2 sG2 rI hD h2
  have hlen : (xs.zip bs).length ≤ sizeLine := by rw [List.length_zip]; omega
  have hkey : ∀ z ∈ xs.zip bs, ∃ y u, key2 z.2 = .tuple [.str y, .str u] := fun z hz => by
    obtain ⟨y, u, r, e⟩ := h2 z.2 (List.of_mem_zip hz).2
    exact ⟨y, u, by rw [e]; rfl⟩
  obtain ⟨⟨oc, vs2, tq, hoc, hdc, hvc⟩, _, _⟩ := I2.hok c' _ hco2
  refine sorted_key_tup (fun z : V × PyData => key2 z.2) hI hM (fun d hd d' hd' => ?_) (.inl fun d hd => ?_) hlen (fun z hz => ?_) (fun v z hv hz h tk kp => ?_) fun out cc h' tk kp hD' hO => ?_
  · obtain ⟨z, hz, rfl⟩ := List.mem_map.mp hd
    obtain ⟨z', hz', rfl⟩ := List.mem_map.mp hd'
    obtain ⟨y, u, e⟩ := hkey z hz
    obtain ⟨y', u', e'⟩ := hkey z' hz'
    show alike (key2 z.2) (key2 z'.2) = true
    rw [e, e']
    simp [alike, alikeAll]
  · obtain ⟨z, hz, rfl⟩ := List.mem_map.mp hd
    obtain ⟨y, u, e⟩ := hkey z hz
    exact ⟨_, _, e⟩
  · obtain ⟨y, u, e⟩ := hkey z hz
    rw [e]
    show X.A.units + 2 + (PyData.tuple [.str y, .str u]).depth < cLine
    have : (PyData.tuple [.str y, .str u]).depth = 1 := by simp [PyData.depth, PyData.depthAll]
    rw [this]
    have := hr.units
    omega
  · obtain ⟨rv, p, is, y, u, t1, t2, rfl, hp, hsz, htk, hk2⟩ := hv
    have hp2 : IsTup h p is := by
      obtain ⟨o, h1, h2⟩ := hp
      exact ⟨o, kp _ _ h1, h2⟩
    refine lam_run (s := { s2 with heap := h, toks := tk }) (hr.in1.in1).depth (I2.nolimit.keeps kp) (kp _ _ hf) ⟨c', oc, vs2, tq, rfl, kp _ _ hoc, hdc, hvc⟩ (hbind _ _ _ _) hnm hk hco hgen hdb hp2 hsz fun h3 tk3 kp3 r hr3 => ?_
    refine ⟨h3, tk3, rfl, kp3, ?_⟩
    have two : ∀ {r : Addr} {g : Heap} {arr : Array Value}, IsTup g r arr → arr.toList = [.str y t1, .str u t2] → Reads g (.ref r) (key2 z.2) [] := fun {r g arr} ⟨o, h1, h2, n, h3⟩ e => by
      rw [hk2]
      refine .tuple h1 h2 h3 ?_
      rw [e]
      exact .cons (.str _ _) (.cons (.str _ _) .nil)
    rcases hr3 with ⟨rfl, hs2⟩ | ht3
    · have hp3 : IsTup h3 r is := by
        obtain ⟨o, h1, h2⟩ := hp2
        exact ⟨o, kp3 _ _ h1, h2⟩
      refine two hp3 ?_
      rw [← htk, List.take_of_length_le (by rw [Array.length_toList]; exact hs2)]
    · exact two ht3 (by rw [List.toList_toArray, htk])
  · have hlt : s2.heap.objs.size ≤ s2.heap.objs.size + 1 := Nat.le_succ _
    have I3 := I2.laid (a := s2.heap.objs.size + 1) (o := .lst ((sort2 xs bs).map Prod.fst)) (t' := tk) kp hlt ⟨by unfold sort2; rw [List.length_map, List.length_mergeSort]; exact hlen, out, cc, relv_out hO, hD'⟩
    exact ⟨.ref _, _, I3, rfl, q2 _ _ hE hG2 hT2 (I2.hok.fresh hlt)⟩
end
section
open PySem.W PyProof.Rows HT LamX
variable {P : Program} {w : World} {K : PySem.W.Frag} {mg : Str → Option Value} {base : Heap}
/-- a def's rule where its code object is named -/
theorem okC {x qual : Str} {st : Stmt} {f c : Addr} {fd : FuncData} {N ps : List Str} {k : Nat} {sp : Sp} (F : Fun K x qual st f fd) (S : FnScope N ps (defScope st)) (hc : fd.code = .ref c) (len : ∀ vs H Q E, sp vs H Q E → vs.length = ps.length)
    (body : ∀ (A : Around) (outer : List Env) (s : Shared) (H : Hp) (vs : List V) (Q : VK) (E : XK), Room k (A.deeper (envOfC qual (defScope st) s.heap.objs.size f (.ref c))) → sp vs H Q E →
      ∃ t, PSs (cxOf CX0 P w K mg base N qual (defScope st) f (.ref c) A outer s H E).nox (defBody st) t ∧ t { nx := fun _ H' => Q .non H', rt := Q } (L2.start N vs) H) : FnOk P w K mg base CX0 (k + 1) f fd ps sp := by
  obtain ⟨oc, od, kV, doc, pm, an, cdv, ct, osl, rfl, lk, hcd⟩ := F.ex
  obtain rfl : cdv = .ref c := hc
  refine fn_of lk hcd S len fun A outer s H vs Q E hr h => ?_
  obtain ⟨t, h1, h2⟩ := body A outer s H vs Q E hr h
  exact ⟨t, h1.nox, h2⟩
/-- tuple(sorted(t, key=lambda m: m[:2])) -/
def sp_sbk (K : PySem.W.Frag) (P : Addr) (q : Str) : Sp := fun vs H Q _ => ∃ a xs bs G, vs = [.ref a] ∧ SqT K G a xs ∧ DpAll K G xs bs ∧ Same G H ∧ G P = none ∧ (∀ d ∈ bs, Two d) ∧ TabS H P q ∧
  ∀ p H2, ExtP P H H2 → TabG P H H2 → TabS H2 P q → H p = none → H2 p = some (.tup ((sort2 xs bs).map Prod.fst)) → Q (.ref p) H2
/-- the same tables, one thing more -/
theorem tabS_new {H : Hp} {P p : Addr} {q : Str} {o : HO} (t : TabS H P q) (h : H p = none) : TabS (upd H p o) P q := t.ext fun b u e => by rw [upd_ne (fun z => by rw [z, h] at e; cases e)]; exact e
theorem extP_new {P : Addr} {H H' : Hp} {p : Addr} {o : HO} (e : ExtP P H H') (h : H' p = none) : ExtP P H (upd H' p o) := fun b u n hb => by
  have := e b u n hb
  rw [upd_ne (fun z => by rw [z, h] at this; cases this)]; exact this
theorem extP_none {P : Addr} {H H' : Hp} {p : Addr} {q : Str} (e : ExtP P H H') (t' : TabS H' P q) (h : H' p = none) : H p = none := by
  cases hp : H p with
  | none => rfl
  | some o =>
    by_cases z : p = P
    · obtain ⟨ps, h1, _⟩ := t'
      rw [z, h1] at h; cases h
    · rw [e p o z hp] at h; cases h
end
section
open LamX
/-- the def of the name nm, its code object and the empty table of it -/
def TabOf (nm : Str) (mg : Str → Option Value) (h : Heap) : Prop := ∃ a o fd c P, mg nm = some (.ref a) ∧ h.get? a = some o ∧ o.data = .func fd ∧ fd.code = .ref c ∧ h.IsCode c P #[] ∧ h.TableAt c P #[]
theorem walk_ofTab {l : PySem.W.OpenLaw} {n k : Nat} {q : Program} {loose : List Str} {XP : (Str → Option Value) → Heap → Prop} {YP : World → Heap → Prop} {d : DefRec} {K : Params → PySem.W.Frag} {CX : World → CXT} {x : Str} (nm : Str)
    (hn : l.most = some n) (hn2 : n ≤ sizeLine) (hdf : d.params.defaults = []) (hr : Room k callerA) (hrec : ((recsOf q).any fun e => e.name == nm) = true) (hY : ∀ w h, YP w h → (K w.params).In h)
    (F : ∀ w mg fa h, YP w h → (K w.params).In h → h.Ns mainGlobals mg → mg d.name = some (.ref fa) → TabOf nm mg h → LawAtS l w (K w.params) (CX w) k n x mg fa h)
    (hCX : ∀ w H s e s', CX w [] H s (fun _ _ _ => False) e s' → False) : PySem.W.WalkO q loose XP YP l.row.toRowW d [] (fun f vs => PySem.call f vs) := by
  refine Att.attach_callB hn hdf ?_
  intro w s0 s1 mg mb fa o pm cd doc a vs ns G Y _ _ _ hmg hobj hints hlen hbits hg
  obtain ⟨dd, hm, e⟩ := List.any_eq_true.mp hrec
  have tab : TabOf nm mg s1.heap := by
    have := G.T.tab dd hm
    rwa [beq_iff_eq.mp e] at this
  obtain ⟨fd, cs, sp, h1, h2, h3, h4, h5, h6⟩ := F w mg fa s1.heap Y (hY w _ Y) G.T.g hmg tab
  exact law_callTs (hY w _ Y) G.T.g G.T.b G.T.builtins G.T.nolimit hg h1 h2 h3 G.T.bmain hobj hints (Nat.le_trans hlen hn2)
    hr h6 h4 (fun H hH hS => h5 H a ns hlen hbits hH hS) (hCX w · s1)
end
section
open PySem.W PyProof.Rows HT LamX
def sortD (bs : List PyData) : List PyData := bs.mergeSort (dataLe false key2)
theorem sort2_snd {xs : List V} {bs : List PyData} (h : xs.length = bs.length) : (sort2 xs bs).map Prod.snd = sortD bs := by
  have e : (xs.zip bs).map Prod.snd = bs := List.map_snd_zip (Nat.le_of_eq h.symm)
  unfold sort2 sortD
  exact (List.map_mergeSort (r := dataLe false fun z : V × PyData => key2 z.2) (s := dataLe false key2) (f := Prod.snd) (fun a _ b _ => rfl)).trans (by rw [e])
theorem sort2_all {K : PySem.W.Frag} {B : Hp} {xs : List V} {bs : List PyData} (h : DqAll K B xs bs) : DqAll K B ((sort2 xs bs).map Prod.fst) (sortD bs) := by
  rw [← sort2_snd (dqa_len h)]
  have hz : ∀ z ∈ xs.zip bs, Dq K B z.1 z.2 := fun z hz => by
    obtain ⟨i, hi⟩ := List.mem_iff_getElem?.mp hz
    rw [List.getElem?_zip_eq_some] at hi
    obtain ⟨d, h1, h2⟩ := dqa_atV h hi.1
    rw [hi.2] at h1
    cases h1
    exact h2
  have all : ∀ l : List (V × PyData), (∀ z ∈ l, Dq K B z.1 z.2) → DqAll K B (l.map Prod.fst) (l.map Prod.snd) := fun l => by
    induction l with
    | nil => intro _; exact .nil
    | cons z l ih => intro hl; exact .cons (hl z (List.mem_cons_self ..)) (ih fun y hy => hl y (List.mem_cons_of_mem _ hy))
  exact all _ fun z hm => hz z (List.mem_mergeSort.mp hm)
theorem tabF_S {F : AP} {H : Hp} {P : Addr} {q : Str} (h : TabF F H P q) : TabS H P q := by
  obtain ⟨ps, a, b, c⟩ := h
  refine ⟨ps, a, b, fun pos cv hc => ?_⟩
  obtain ⟨c', e1, e2, _⟩ := c pos cv hc
  exact ⟨c', e1, e2⟩
theorem we_sbk {K : PySem.W.Frag} {C P : Addr} {q : Str} {E E' : XK} {XP : Addr → SM → Prop} {ρ : List Sl} {m : SM} {k : Rk → SM → Prop} {tr : TA} (h : WA (stoR K C P q) K E XP ρ m tr fun rs m1 => ∃ ds, DLo rs = some ds ∧ ∃ bs, ds = [.tuple bs] ∧ (∀ d ∈ bs, Two d) ∧ k (.d (.tuple (sortD bs))) m1) :
    WE (stoR K C P q) K E XP ρ m (tCall (sp_sbk K P q) [] E' tr) k := by
  unfold WE
  intro F0 H0 B0 F H B σ D Q qq
  refine wa_data h D _ fun vs ds m1 F1 H1 B1 ⟨bs, e, h2, k1⟩ D1 q1 hd => ?_
  subst e
  obtain ⟨a, xs, rfl, ha, hx⟩ : ∃ a xs, vs = [.ref a] ∧ B1 a = some (.tup xs) ∧ DqAll K B1 xs bs := by
    cases hd with
    | cons g1 g2 => cases g2; obtain ⟨p, us, rfl, h3, h4⟩ := dq_tupH g1; exact ⟨p, us, rfl, h3, h4⟩
  obtain ⟨r1, r2, r3, r4, f1, f2, f3, f4, hdm⟩ := D1.r
  have bP : B1 P = none := (hdm _ f4).2
  refine ⟨a, xs, bs, B1, rfl, sqt ha, DqAll.dp _ hx, D1.st.s, bP, h2, tabF_S r4, fun p H2 hE hG hT hp hH => ?_⟩
  have bp : B1 p = none := b_none D1.st.s hp
  have keep : ∀ x o, x ≠ P → H1 x = some o → H2 x = some o := fun x o n e => hE x o n e
  have s2 : Same (upd B1 p (.tup ((sort2 xs bs).map Prod.fst))) H2 := fun x o e => by
    by_cases z : x = p
    · rw [z, upd_same] at e; rw [z, hH, ← e]
    · rw [upd_ne z] at e; exact keep x o (fun y => by rw [y, bP] at e; cases e) (D1.st.s x o e)
  have live : ∀ x, H1 x ≠ none → H2 x ≠ none := fun x hx => by
    by_cases z : x = P
    · obtain ⟨ps, e, _⟩ := hT; rw [z, e]; simp
    · cases e : H1 x with
      | none => exact absurd e hx
      | some o => rw [keep x o z e]; simp
  -- what may change from now on: the new code too
  let F2 : AP := fun x => F1 x ∨ (H1 x = none ∧ H2 x = some (CodeO x q))
  have qs : Stq F1 H1 B1 F2 H2 (upd B1 p (.tup ((sort2 xs bs).map Prod.fst))) :=
    ⟨same_upd bp, s2, fun x h1 h2 => by rw [upd_ne (fun z => h1 (by rw [z]; exact hp))]; exact h2, fun x o e n => keep x o (fun z => n (by rw [z]; exact f4)) e, fun x h1 n z => z.elim n fun y => h1 y.1, live⟩
  have rel : (stoR K C P q).rel m1 F2 H2 (upd B1 p (.tup ((sort2 xs bs).map Prod.fst))) := by
    obtain ⟨dx, r1⟩ := r1
    obtain ⟨kvs, t1, t2⟩ := r2
    obtain ⟨us, c1, c2⟩ := r3
    obtain ⟨ps1, hP1, _, hc1⟩ := r4
    obtain ⟨ps, hP2, htr, hc2⟩ := hT
    obtain ⟨ps3, ps4, g1, g2, g3⟩ := hG
    rw [hP1] at g1
    cases g1
    rw [hP2] at g2
    cases g2
    have nP : ∀ {x : Addr} {o : HO}, H1 x = some o → (∀ ps, o ≠ .tbl ps) → x ≠ P := fun e n z => by rw [z, hP1] at e; exact n _ (Option.some.inj e).symm
    refine ⟨⟨dx, keep _ _ (nP r1 fun _ z => nomatch z) r1⟩, ⟨kvs, keep _ _ (nP t1 fun _ z => nomatch z) t1, t2.same (same_upd bp)⟩, ⟨us, keep _ _ (nP c1 fun _ z => nomatch z) c1, dqa_same (same_upd bp) _ c2⟩, ⟨ps, hP2, htr, fun pos cv hc => ?_⟩, .inl f1, .inl f2, .inl f3, .inl f4, fun x hx => ?_⟩
    · obtain ⟨c', e1, e2⟩ := hc2 pos cv hc
      refine ⟨c', e1, e2, ?_⟩
      rcases g3 pos cv hc with z | ⟨c0, z, z2⟩
      · obtain ⟨c1, u1, _, u3⟩ := hc1 pos cv z
        rw [e1] at u1
        cases u1
        exact .inl u3
      · rw [e1] at z
        cases z
        exact .inr ⟨z2, e2⟩
    · rcases hx with hx | ⟨hx, hx2⟩
      · refine ⟨live x (hdm x hx).1, ?_⟩
        rw [upd_ne (fun z => (hdm x hx).1 (by rw [z]; exact hp))]
        exact (hdm x hx).2
      · refine ⟨by rw [hx2]; simp, ?_⟩
        by_cases z : x = p
        · rw [z, hH] at hx2
          have := Option.some.inj hx2
          unfold CodeO at this
          cases this
        · rw [upd_ne z]; exact b_none D1.st.s hx
  exact qq _ _ m1 F2 H2 _ k1 (D1.step qs rel) (q1.trans qs) (.tup upd_same (dqa_same (same_upd bp) _ (sort2_all hx)))
end
/-! ## methods that may raise, and what apply needs -/
theorem okMX {M : Type} {R : MR M} {P : Program} {w : World} {K : PySem.W.Frag} {mg : Str → Option Value} {base : Heap} {x qual : Str} {st : Stmt} {f : Addr} {fd : FuncData} {N ps : List Str} {k : Nat} {at_ : M → Addr} {pre : M → List PyData → Prop} {post : M → List PyData → Rk → M → Prop} {bad : M → List PyData → Addr → Prop}
    (F : Fun K x qual st f fd) (S : FnScope N ps (defScope st)) (n : Nat) (hn : N.length = ps.length + n) (len : ∀ m ds, pre m ds → ds.length + 1 = ps.length)
    (hb : ∀ (cdv : Value) (A : Around) (outer : List Env) (s : Shared) (H : Hp) (E : XK), Room k (A.deeper (envOfC qual (defScope st) s.heap.objs.size f cdv)) →
      ∃ t, PSs (cxOf (L2.CX P w) P w K mg base N qual (defScope st) f cdv A outer s H E) (defBody st) t ∧
        ∀ m ds, pre m ds → WS R K E (fun C m' => bad m ds C ∧ m' = m) (.v (.ref (at_ m)) :: (ds.map Sl.d ++ List.replicate n Sl.u)) m t (fun _ m' => post m ds (.d .none) m') (fun r m' => post m ds r m') (fun _ _ => False) (fun _ _ => False)) : FnOk P w K mg base (L2.CX P w) (k + 1) f fd ps (spM R K at_ pre post bad) :=
  F.okX S (fun vs H Q E ⟨m, us, ds, F, B, e, hd, _, _, hp, _⟩ => by rw [e, List.length_cons, dqa_len hd, len m ds hp]) fun cdv A outer s H vs Q E hr h => by
    obtain ⟨t, h1, h2⟩ := hb cdv A outer s H E hr
    refine ⟨t, h1, run_M h n ?_ fun m ds hp => h2 m ds hp⟩
    obtain ⟨m, us, ds, F, B, rfl, hd, _, _, hp, _⟩ := h
    have := len m ds hp
    rw [List.length_cons, dqa_len hd, this, hn]
    omega
theorem mtK_index {K : PySem.W.Frag} {X : Cx} (h : X.K = K) : MtR X "list.index" (rIndex K) := by subst h; exact mt_index
section
variable {M : Type} {R : MR M} {K : PySem.W.Frag} {E : XK} {XP : Addr → M → Prop} {ρ : List Sl} {m : M} {k : Rk → M → Prop} {te : TE} {tr : TA} {nx bk ct : List Sl → M → Prop} {rt : Rk → M → Prop} {i : Nat}
/-- xs.extend(ys) of a slot's own list -/
theorem ws_extend {xs : List PyData} (hi : ρ[i]? = some (.o xs)) (h : WA R K E XP ρ m tr fun rs m1 => ∃ ys, DLo rs = some [.list ys] ∧ xs.length + ys.length ≤ 90000 ∧ nx (ρ.set i (.o (xs ++ ys))) m1) : WS R K E XP ρ m (tDrop (tBM K "list" rExtend (tVar i) tr)) nx rt bk ct := by with_unfolding_all exact (fun D d n _ _ _ => by
  obtain ⟨w, h1, p, us, rfl, h2, h3, h4, h5, h6⟩ := d.s i _ hi
  refine ⟨.ref p, h1, .inl ⟨rfl, _, sql h2⟩, ?_⟩
  refine wa_data (k' := fun ds m1 => ∃ ys, ds = [.list ys] ∧ xs.length + ys.length ≤ 90000 ∧ nx (ρ.set i (.o (xs ++ ys))) m1) (fun D Q q => h D Q fun vs rs m' F' H' B' ⟨x, e, k⟩ => q vs rs m' F' H' B' ⟨_, e, x, rfl, k⟩) d _ fun vs ds m1 F1 H1 B1 ⟨ys, e, hl, k1⟩ D1 q1 hd => ?_
  subst e
  cases hd with
  | cons g1 g2 =>
    cases g2
    have e1 := q1.k _ _ h2 h4
    have hu := dqa_len h6
    obtain ⟨p2, ws, rfl, g3, g4⟩ := dq_lst g1
    have hw := dqa_len g4
    exact ⟨p, p2, us, ws, rfl, rfl, e1, D1.st.s _ _ g3, sz (by omega), n k1 (D1.putO hi h1 (dqa_app (dqa_same q1.b _ h6) g4)) q1.b⟩)
/-- xs.index(b) of a list of truths -/
theorem we_idxF (h : WE R K E XP ρ m te fun a m1 => ∃ bs : List Bool, LR a (bs.map .bool) ∧ WA R K E XP ρ m1 tr fun rs m2 => ∃ b j, rs = [.d (.bool b)] ∧ bs[j]? = some b ∧ (∀ i, i < j → bs[i]? ≠ some b) ∧ k (.d (.int (j : Nat))) m2) : WE R K E XP ρ m (tBM K "list" (rIndex K) te tr) k := by
  unfold WE at h ⊢
  intro F0 H0 B0 F H B σ D Q qq
  refine h D _ fun v a m1 F1 H1 B1 ⟨bs, la, k1⟩ D1 q1 r1 => ?_
  obtain ⟨p, vs, rfl, h2, h3⟩ := rel_lst D1.st.s r1 la
  refine ⟨.inl ⟨rfl, _, sql h2⟩, ?_⟩
  unfold WA at k1
  refine k1 D1 _ fun ws rs m2 F2 H2 B2 ⟨b, j, e, hj, hno, k2⟩ D2 q2 r2 => ?_
  subst e
  obtain ⟨w, rfl, r3⟩ := relA1 r2
  cases dq_bl r3
  obtain ⟨p', vs', e', h4, h5⟩ := rel_lst D2.st.s (r1.step q2) la
  cases e'
  have e2 := dqa_bools h5
  subst e2
  refine ⟨p, _, .bl b, j, .bl b, rfl, rfl, sql h4, rfl, ?_, ?_, ?_, ?_, ?_⟩
  · rw [List.all_eq_true]
    intro x hx
    obtain ⟨y, _, rfl⟩ := List.mem_map.mp hx
    rfl
  · rw [List.getElem?_map, hj]; rfl
  · show (b == b) = true
    cases b <;> rfl
  · intro i z hi hz
    rw [List.getElem?_map] at hz
    cases hb : bs[i]? with
    | none => rw [hb] at hz; cases hz
    | some c =>
      rw [hb] at hz
      cases hz
      have := hno i hi
      rw [hb] at this
      show (c == b) = false
      cases b <;> cases c <;> first | rfl | exact absurd rfl this
  · exact qq _ _ m2 _ _ _ k2 D2 (q1.trans q2) (.int _)
end
section
variable {K : PySem.W.Frag} {C P : Addr} {q : Str} {E : XK} {XP : Addr → SM → Prop} {ρ : List Sl} {m : SM} {k : Rk → SM → Prop} {td ty : TE}
/-- key in the table -/
theorem we_din (h : WE (stoR K C P q) K E XP ρ m ty fun b m1 => ∃ x y, b = .d (.tuple [.str x, .str y]) ∧ WE (stoR K C P q) K E XP ρ m1 td fun a m2 => a = .v (.ref m2.t) ∧ k (.d (.bool (lkD m2.tab [.inr x, .inr y]).isSome)) m2) :
    WE (stoR K C P q) K E XP ρ m (tDIn ty td) k := by
  unfold WE at h ⊢
  intro F0 H0 B0 F H B σ D Q qq
  refine h D _ fun v a m1 F1 H1 B1 ⟨x, y, ea, k1⟩ D1 q1 r1 => ?_
  subst ea
  refine k1 D1 _ fun w b m2 F2 H2 B2 ⟨eb, k2⟩ D2 q2 r2 => ?_
  subst eb
  cases (show w = .ref m2.t from r2)
  obtain ⟨p, rfl, hp⟩ := key_at D2.st.s (r1.step q2)
  obtain ⟨kvs2, h3, h4⟩ := D2.r.2.1
  refine ⟨m2.t, _, rfl, DGet.t h3 hp, ?_⟩
  refine qq _ _ m2 F2 H2 B2 k2 D2 (q1.trans q2) ?_
  rcases h4.get [.inr x, .inr y] with ⟨e1, e2⟩ | ⟨u, d, e1, e2, e3⟩
  · rw [e1, e2]; exact .bl _
  · rw [e1, e2]; exact .bl _
end
/-! ## a law's body behind its draws and a new store -/
def sm0 (s t c : Addr) : SM := ⟨s, t, c, 0, 0, [], []⟩
def sp_snew (C : Addr) : Sp := fun vs H Q _ => ∃ p dx, vs = [.ref p] ∧ H p = some (.ins C dx []) ∧ ∀ t c H', H t = none → H c = none → t ≠ c → H' p = some (.ins C dx (fSto (sm0 p t c))) → H' t = some (.dT []) → H' c = some (.lst []) → (∀ x o, H x = some o → x ≠ p → H' x = some o) → Q .non H'
theorem dqa_nums {K : PySem.W.Frag} (G : Hp) (ds : List Int) : DqAll K G (ds.map V.int) (ds.map .int) := by
  induction ds with
  | nil => exact .nil
  | cons x xs ih => exact .cons (.int x) ih
theorem enter_sto {K : PySem.W.Frag} {E : XK} {Q : VK} {ts : TS} {H : Hp} {C P a p s t c dx : Addr} {q : Str} {ds : List Int} (n : Nat) (hp : H p = some (.lst (ds.map V.int))) (qq : ∀ H', Q (.bl true) H')
    (hs : H s = some (.ins C dx (fSto (sm0 s t c)))) (ht : H t = some (.dT [])) (hc : H c = some (.lst [])) (np : p ≠ c) (hT : LamX.TabS H P q)
    (body : WS (stoR K C P q) K E (fun _ _ => False) (.u :: .d (.list (ds.map .int)) :: .v (.ref s) :: List.replicate n Sl.u) (sm0 s t c) ts (fun _ _ => False) (fun r _ => r = .d (.bool true)) (fun _ _ => False) (fun _ _ => False)) :
    ts { nx := fun _ H' => Q .non H', rt := Q } (some (.ref a) :: some (.ref p) :: some (.ref s) :: List.replicate n none) H := by
  let B : Hp := upd (fun _ => none) p (.lst (ds.map V.int))
  let F : AP := fun x => x = s ∨ x = t ∨ x = c ∨ x = P ∨ H x = some (LamX.CodeO x q)
  obtain ⟨tb, h1, h2, h3⟩ := hT
  have hB : Same B H := fun x o h => by
    by_cases hx : x = p
    · rw [hx] at h ⊢
      rw [show B p = some (.lst (ds.map V.int)) from upd_same] at h
      rw [← h]; exact hp
    · rw [show B x = none from upd_ne hx] at h; cases h
  have hdom : ∀ x, F x → H x ≠ none ∧ B x = none := fun x hx => by
    have hn : x ≠ p ∧ H x ≠ none := by
      rcases hx with e | e | e | e | e
      · subst e; exact ⟨fun z => (by rw [z, hp] at hs; cases hs), by rw [hs]; simp⟩
      · subst e; exact ⟨fun z => (by rw [z, hp] at ht; cases ht), by rw [ht]; simp⟩
      · subst e; exact ⟨fun z => np z.symm, by rw [hc]; simp⟩
      · subst e; exact ⟨fun z => (by rw [z, hp] at h1; cases h1), by rw [h1]; simp⟩
      · exact ⟨fun z => (by rw [z, hp] at e; cases e), by rw [e]; simp⟩
    exact ⟨hn.2, upd_ne hn.1⟩
  have hR : (stoR K C P q).rel (sm0 s t c) F H B := ⟨⟨dx, hs⟩, ⟨[], ht, .nil⟩, ⟨[], hc, .nil⟩, ⟨tb, h1, h2, fun pos cv e => by
    obtain ⟨x, e1, e2⟩ := h3 pos cv e
    exact ⟨x, e1, e2, .inr (.inr (.inr (.inr e2)))⟩⟩, .inl rfl, .inr (.inl rfl), .inr (.inr (.inl rfl)), .inr (.inr (.inr (.inl rfl))), hdom⟩
  have D0 : DS (stoR K C P q) K E (fun _ _ => False) F H B F H B (some (.ref a) :: some (.ref p) :: some (.ref s) :: List.replicate n none) (.u :: .d (.list (ds.map .int)) :: .v (.ref s) :: List.replicate n Sl.u) (sm0 s t c) := by
    refine ⟨by simp, .refl hB, hR, fun i t ht => ?_, fun i j p xs ys h1 => ?_, fun _ _ _ _ _ z => z.elim⟩
    · match i with
      | 0 => cases ht; exact ⟨_, rfl, True.intro⟩
      | 1 => cases ht; exact ⟨_, rfl, _, rfl, .lst upd_same (dqa_nums _ _)⟩
      | 2 => cases ht; exact ⟨_, rfl, rfl⟩
      | i + 3 =>
        simp only [List.getElem?_cons_succ, List.getElem?_replicate] at ht ⊢
        split at ht
        · next h => cases ht; exact ⟨none, by rw [if_pos h], True.intro⟩
        · cases ht
    · match i with
      | 0 => cases h1
      | 1 => cases h1
      | 2 => cases h1
      | i + 3 =>
        simp only [List.getElem?_cons_succ, List.getElem?_replicate] at h1
        split at h1 <;> cases h1
  unfold WS at body
  exact body _ D0 (fun z => z.elim) (fun {v r m' F' H' B'} hk st hF rel => by rw [hk] at rel; rw [dq_bl rel]; exact qq _) (fun z => z.elim) (fun z => z.elim)
/-! ## a list is shown to a def that answers with a scalar -/
def DLl : List Rk → Option (List PyData)
  | [] => some []
  | .d x :: rs => (DLl rs).map (x :: ·)
  | .o xs :: rs => (DLl rs).map (.list xs :: ·)
  | .l xs :: rs => (DLl rs).map (.list xs :: ·)
  | _ :: _ => none
theorem toDl {K : PySem.W.Frag} {Hs : Hp} {F : AP} {H B : Hp} : ∀ {vs : List V} {rs : List Rk} {ds : List PyData} {Bx : Hp}, Same B Bx → Same Bx H → RelA K Hs F H B vs rs → DLl rs = some ds → ∃ By, Same Bx By ∧ Same By H ∧ DqAll K By vs ds
  | [], [], _, Bx, _, s, _, e => by cases e; exact ⟨Bx, Same.refl _, s, .nil⟩
  | v :: vs, r :: rs, ds, Bx, sb, s, h, e => by
    have lst : ∀ {xs es : List PyData} {p : Addr} {us : List V}, v = .ref p → H p = some (.lst us) → DqAll K B us xs → DLl rs = some es → ds = .list xs :: es → ∃ By, Same Bx By ∧ Same By H ∧ DqAll K By (v :: vs) ds := fun {xs es p us} e1 e2 e3 e4 e5 => by
      subst e1 e5
      have s1 : Same Bx (upd Bx p (.lst us)) := fun x o hx => by
        by_cases z : x = p
        · rw [z] at hx ⊢; rw [upd_same]; rw [← e2]; exact s _ _ hx
        · rw [upd_ne z]; exact hx
      have s2 : Same (upd Bx p (.lst us)) H := fun x o hx => by
        by_cases z : x = p
        · rw [z] at hx ⊢; rw [upd_same] at hx; rw [← hx]; exact e2
        · rw [upd_ne z] at hx; exact s _ _ hx
      obtain ⟨By, g1, g2, g3⟩ := toDl (sb.trans s1) s2 h.2 e4
      exact ⟨By, s1.trans g1, g2, .cons (.lst (g1 _ _ upd_same) (dqa_same ((sb.trans s1).trans g1) _ e3)) g3⟩
    cases r with
    | d x =>
      unfold DLl at e
      cases hr : DLl rs with
      | none => rw [hr] at e; cases e
      | some es =>
        rw [hr] at e
        cases e
        obtain ⟨By, g1, g2, g3⟩ := toDl sb s h.2 hr
        exact ⟨By, g1, g2, .cons (dq_same (sb.trans g1) _ h.1) g3⟩
    | o xs =>
      unfold DLl at e
      cases hr : DLl rs with
      | none => rw [hr] at e; cases e
      | some es =>
        rw [hr] at e
        cases e
        obtain ⟨p, us, e1, e2, _, _, _, e3⟩ := h.1
        exact lst e1 e2 e3 hr rfl
    | l xs =>
      unfold DLl at e
      cases hr : DLl rs with
      | none => rw [hr] at e; cases e
      | some es =>
        rw [hr] at e
        cases e
        obtain ⟨p, us, e1, e2, _, e3⟩ := h.1
        exact lst e1 e2 e3 hr rfl
    | v _ => cases e
    | c _ => cases e
  | [], _ :: _, _, _, _, _, h, _ => h.elim
  | _ :: _, [], _, _, _, _, h, _ => h.elim
theorem we_callPk {M : Type} {R : MR M} {K : PySem.W.Frag} {E : XK} {XP : Addr → M → Prop} {ρ : List Sl} {m : M} {k : Rk → M → Prop} {tr : TA} {E' : XK} {pre : List PyData → Prop} {post : List PyData → Rk → Prop}
    (h : WA R K E XP ρ m tr fun rs m1 => ∃ ds, DLl rs = some ds ∧ pre ds ∧ ∀ r, post ds r → ∃ x, r = .d x ∧ isScD x = true ∧ k (.d x) m1) : WE R K E XP ρ m (tCall (spP K pre post) [] E' tr) k := by
  unfold WE WA at *
  intro F0 H0 B0 F H B σ D Q q
  refine h D _ fun vs rs m1 F1 H1 B1 ⟨ds, e, hp, hk⟩ D1 q1 r1 => ?_
  obtain ⟨By, g1, g2, g3⟩ := toDl (Same.refl _) D1.st.s r1 e
  rw [List.append_nil]
  refine ⟨ds, By, g3, g2, hp, fun v r H' B' hr s b t f rel => ?_⟩
  obtain ⟨x, rfl, hx, hkx⟩ := hk r hr
  have hv : v = scV x := dq_scV rel hx
  have hq : Dq K B1 v x := by
    rw [hv]
    cases x <;> first | constructor | cases hx
  exact q v (.d x) m1 F1 H' B1 hkx (D1.pure s (Same.refl _) (D1.st.s.trans s) fun _ _ z => z) (q1.trans (.pure s (Same.refl _) (D1.st.s.trans s) fun _ _ z => z)) hq
/-- what follows is shown once, from what is known behind a statement -/
theorem ws_seqI {M : Type} {R : MR M} {K : PySem.W.Frag} {E : XK} {XP : Addr → M → Prop} {ρ : List Sl} {m : M} {nx bk ct : List Sl → M → Prop} {rt : Rk → M → Prop} {t u : TS} (S : Type) (ρs : S → List Sl) (I : S → Prop) (h : WS R K E XP ρ m t (Nxt S ρs (fun _ => m) I) rt bk ct) (g : ∀ s, I s → WS R K E XP (ρs s) m u nx rt bk ct) : WS R K E XP ρ m (tSeq t u) nx rt bk ct :=
  ws_seq (ws_monoN h fun ρ' m' ⟨s, w, e, i⟩ => by subst e; exact ws_wk w (g s i))
theorem wi_rngLen {M : Type} {R : MR M} {K : PySem.W.Frag} {E : XK} {XP : Addr → M → Prop} {ρ : List Sl} {m : M} {te : TE} {k : List PyData → M → Prop} (h : WE R K E XP ρ m te fun a m1 => ∃ xs, LR a xs ∧ xs.length ≤ 90000 ∧ k (nums 0 xs.length) m1) : WI R K E XP ρ m (iRng1 (tCons (tCB (rLen K) (tCons te tNil)) tNil)) k :=
  wi_rng1 (wa_cons (we_cb (wa_cons (WE.mono h fun a m1 ⟨xs, ha, hl, hk⟩ => wa_nil (cbP_lenL ha (wa_nil ⟨(xs.length : Int), rfl, by omega, by omega, by rw [Int.toNat_natCast]; exact hk⟩))))))
/-! # sorted(d) of a dict whose keys are pairs of texts -/
def kD : Key → PyData
  | .inl i => .int i
  | .inr z => .str z
def keyD (k : List Key) : PyData := .tuple (k.map kD)
/-- a pair of texts -/
def Pr (k : List Key) : Prop := ∃ x y : Str, k = [.inr x, .inr y]
def srtK {α : Type} (zs : List (List Key × α)) : List (List Key × α) := zs.mergeSort (PySem.W.dataLe false fun z => keyD z.1)
def rSortKT : List V → Hp → VK → Prop := fun vs H Q => ∃ (a : Addr) (kvs : List (List Key × V)), vs = [.ref a] ∧ H a = some (.dT kvs) ∧ (∀ z ∈ kvs, Pr z.1) ∧
  ∀ p bs, H p = none → IsKeys H kvs bs → Q (.ref p) (upd H p (.lst ((srtK ((kvs.map Prod.fst).zip bs)).map fun z => V.ref z.2)))
section
open PySem.W PyProof.Rows HT
variable {X : Cx}
theorem keys_each {pins : List (Addr × Obj)} {σ : L2.St} {H : Hp} {s : Shared} (I : Inv X pins σ H s) : ∀ {kvs : List (List Key × V)} {bs : List Addr}, IsKeys H kvs bs → (∀ z ∈ kvs, Pr z.1) →
    EachIs (fun v (z : List Key × Addr) => v = Value.ref z.2 ∧ Reads s.heap v (keyD z.1) [] ∧ H z.2 ≠ none ∧ Pr z.1) (bs.map Value.ref) ((kvs.map Prod.fst).zip bs)
  | [], _, h, _ => by
    cases h
    exact .nil
  | z :: kvs, _, h, hp => by
    cases h with
    | cons h1 h2 =>
      rename_i b bs
      refine .cons ⟨rfl, ?_, by rw [h1]; simp, hp z (List.mem_cons_self ..)⟩ (keys_each I h2 fun y hy => hp y (List.mem_cons_of_mem _ hy))
      obtain ⟨x, y, e⟩ := hp z (List.mem_cons_self ..)
      obtain ⟨its, r, ⟨o, q1, q2, n, q3⟩, _⟩ := I.tuple (sqt h1)
      show Reads s.heap (.ref b) (keyD z.1) []
      rw [e] at r ⊢
      refine .tuple q1 q2 q3 ?_
      cases r with
      | cons r1 r2 =>
        cases r2 with
        | cons r3 r4 =>
          cases r4
          obtain ⟨t1, rfl⟩ := r1
          obtain ⟨t2, rfl⟩ := r3
          exact .cons (.str _ _) (.cons (.str _ _) .nil)
theorem refs_out {R : Value → List Key × Addr → Prop} (hR : ∀ v z, R v z → v = Value.ref z.2) : ∀ {out : List Value} {l : List (List Key × Addr)}, EachIs R out l → Vals (l.map fun z => V.ref z.2) out
  | _, _, .nil => .nil
  | _, _, .cons a b => .cons (hR _ _ a) (refs_out hR b)
/-- the keys of a dict with tuple keys, gathered -/
theorem gather_dT (hc : X.calm = true) {pins : List (Addr × Obj)} {σ : L2.St} {H : Hp} {s : Shared} {d : Addr} {kvs : List (List Key × V)} {R : List Value → Shared → Prop} {E : Value → Shared → Prop} (I : Inv X pins σ H s) (hd : H d = some (.dT kvs))
    (h : ∀ h' tk bs, (∀ b o, s.heap.get? b = some o → h'.get? b = some o) → IsKeys H kvs bs → R (bs.map Value.ref) { s with heap := h', toks := tk }) :
    wpAny (model X.prog X.w) X.A.in1 (collect (.ref d)) R E s := by
  obtain ⟨z, hs, ks, pr, o, es, ep, ho, hx, hdt, he, hn⟩ := (show ObjOk X.prog X.w H s.heap d (.dT kvs) from I.hok d _ hd)
  have l1 : es.size = ks.length := size_of_entries he
  have l2 := Paired.length pr
  refine PySem.W.kdu_collect (A := X.A.in1) (kdl_raw hs hx hdt) (I.ok.hd hc) ho (by omega) fun h' tk acc kp it => ?_
  have hl : acc.toList.length = ks.length := by rw [Array.length_toList, it.1, l1]
  have eb : acc.toList = (ks.map fun x => x.2.1).map Value.ref := by
    rw [List.map_map]
    refine List.ext_getElem? fun j => ?_
    rw [List.getElem?_map]
    by_cases hj : j < ks.length
    · obtain ⟨v, hv⟩ : ∃ v, acc.toList[j]? = some v := ⟨_, List.getElem?_eq_getElem (by omega)⟩
      obtain ⟨en, hen, e2⟩ := it.2 j v (by rw [← Array.getElem?_toList]; exact hv)
      have qe := entry_at he j
      rw [hen, List.getElem?_eq_getElem hj] at qe
      have e3 : en = entryOfKey (tupleKind (mixKind X.prog X.w)) ks[j] := Option.some.inj qe
      rw [hv, List.getElem?_eq_getElem hj, e2, e3]
      rfl
    · rw [List.getElem?_eq_none (by omega), List.getElem?_eq_none (by omega)]
      rfl
  rw [eb]
  exact h h' tk _ kp (isKeys_of pr)
theorem call_sortKT (hc : X.calm = true) (hu : X.A.units + 8 < cLine) : CallR X (.builtin "sorted") rSortKT := by
  intro pins s σ H xs us Q I r q
  obtain ⟨a, kvs, rfl, hd, hpr, q⟩ := q
  obtain rfl := Vals.ref1 r
  refine Calls.call_function_entry PyProof.Rows.kind_sorted PyProof.Rows.plain_sorted PyProof.Rows.entry_sorted (PyProof.Rows.args_sorted1 _) ?_
  unfold Builtin.«sorted»
  refine wpAny_bind (m := checkCount "sorted" 1 1 _) (wpAny_pure ?_)
  refine wpAny_bind (gather_dT hc I hd fun h' tk bs kp hk => ?_)
  have hz : kvs.length ≤ sizeLine := (show ObjOk X.prog X.w H s.heap a (.dT kvs) from I.hok a _ hd).1
  have hlen : bs.length = kvs.length := (Paired.length hk).symm
  have I1 : Inv X pins σ H { s with heap := h', toks := tk } := I.kept kp
  refine wpAny_bind (wpAny_newList ?_ (by rw [List.length_map, hlen]; exact hz))
  have hoL : (h'.push (seqObj "list" (bs.map Value.ref).toArray 0)).get? h'.objs.size = some (seqObj "list" (bs.map Value.ref).toArray 0) := Heap.get?_push_size _ rfl
  have hE := keys_each I1 hk hpr
  have hmem : ∀ z ∈ (kvs.map Prod.fst).zip bs, Pr z.1 := fun z hz => by
    obtain ⟨y, hy, e⟩ := List.mem_map.mp (List.of_mem_zip hz).1
    rw [← e]; exact hpr y hy
  have hlz : ((kvs.map Prod.fst).zip bs).length ≤ sizeLine := by rw [List.length_zip, List.length_map]; omega
  refine wpAny_bind (wpAny_holding (list_sort_data (s := { s with heap := h'.push (seqObj "list" (bs.map Value.ref).toArray 0), toks := tk }) (enc := fun z : List Key × Addr => keyD z.1) (R := fun v z => v = Value.ref z.2) hoL (hE.mono fun _ _ z => z.1)
    (hE.mono fun v z hz => ⟨[], PyProof.Rows.Reads.keeps (fun b o e => Heap.get?_push_of_some _ e) hz.2.1, by simp⟩) (fun d hd d' hd' => ?_) (.inl fun d hd => ?_) hlz (fun z hz => ?_) fun out ho hO => ?_))
  · obtain ⟨z, hz, rfl⟩ := List.mem_map.mp hd
    obtain ⟨z', hz', rfl⟩ := List.mem_map.mp hd'
    obtain ⟨x, y, e⟩ := hmem z hz
    obtain ⟨x', y', e'⟩ := hmem z' hz'
    show alike (keyD z.1) (keyD z'.1) = true
    rw [e, e']
    simp [keyD, kD, alike, alikeAll]
  · obtain ⟨z, hz, rfl⟩ := List.mem_map.mp hd
    obtain ⟨x, y, e⟩ := hmem z hz
    exact ⟨.str x, [.str y], by show keyD z.1 = _; rw [e]; rfl⟩
  · obtain ⟨x, y, e⟩ := hmem z hz
    show X.A.units + 1 + 1 + (keyD z.1).depth < cLine
    rw [e]
    have : (keyD [.inr x, .inr y]).depth = 1 := by simp [keyD, kD, PyData.depth, PyData.depthAll]
    rw [this]
    omega
  · obtain ⟨e', he'⟩ := PyProof.Rows.sortedHeap_at (vs := bs.map Value.ref) (out := out.toArray) hoL
    refine wpAny_pure ⟨_, rfl, .ref h'.objs.size, upd H h'.objs.size (.lst ((srtK ((kvs.map Prod.fst).zip bs)).map fun z => V.ref z.2)), I1.laid (t' := tk) (fun b u e => ?_) (Nat.le_refl _) ⟨?_, out, e', by unfold srtK; exact refs_out (fun _ _ z => z) hO, he'⟩, rfl, q _ _ (I1.hok.fresh (Nat.le_refl _)) hk⟩
    · have hb : b < h'.objs.size := Heap.lt_size e
      rw [PyProof.Rows.sortedHeap_old (Nat.ne_of_lt hb) (by rw [size_push']; exact Nat.lt_succ_of_lt hb)]
      exact Heap.get?_push_of_some _ e
    · unfold srtK
      rw [List.length_map, List.length_mergeSort]; exact hlz
end
/-! ## the entries of a table, in order -/
def srtT (tab : Tab) : Tab := srtK tab
def entRow (z : List Key × PyData) : PyData := match z.2 with
  | .tuple xs => .tuple (z.1.map kD ++ xs)
  | _ => .none
def entsD (tab : Tab) : List PyData := (srtT tab).map entRow
/-- what a table of objects is like -/
structure TabOk (tab : Tab) : Prop where
  nd : (tab.map Prod.fst).Nodup
  k : ∀ z ∈ tab, Pr z.1
  v : ∀ z ∈ tab, ∃ b v c, z.2 = .tuple [.int b, .int v, c]
theorem lk_mem : ∀ {tab : Tab} {z : List Key × PyData}, (tab.map Prod.fst).Nodup → z ∈ tab → lkD tab z.1 = some z.2
  | [], _, _, h => by cases h
  | y :: tab, z, nd, h => by
    rw [List.map_cons, List.nodup_cons] at nd
    unfold lkD
    rw [List.find?_cons]
    rcases List.mem_cons.mp h with rfl | h
    · rw [decide_eq_true rfl]; rfl
    · have hne : ¬ y.1 = z.1 := fun e => nd.1 (by rw [e]; exact List.mem_map_of_mem h)
      rw [decide_eq_false hne]
      exact lk_mem nd.2 h
theorem mem_lk {tab : Tab} {k : List Key} {d : PyData} (h : lkD tab k = some d) : (k, d) ∈ tab := by
  unfold lkD at h
  cases hf : tab.find? fun z => decide (z.1 = k) with
  | none => rw [hf] at h; cases h
  | some z =>
    rw [hf] at h
    have h1 := List.mem_of_find?_eq_some hf
    have h2 := List.find?_some hf
    have e : z.1 = k := of_decide_eq_true h2
    cases h
    rw [← e]; exact h1
theorem srt_map {α β : Type} (f : α → β) (zs : List (List Key × α)) : (srtK zs).map (fun z => (z.1, f z.2)) = srtK (zs.map fun z => (z.1, f z.2)) :=
  List.map_mergeSort fun _ _ _ _ => rfl
theorem srt_mem {α : Type} {zs : List (List Key × α)} {z : List Key × α} : z ∈ srtK zs ↔ z ∈ zs := List.mem_mergeSort
theorem srt_len {α : Type} (zs : List (List Key × α)) : (srtK zs).length = zs.length := List.length_mergeSort _
theorem keys_join {K : PySem.W.Frag} {B H : Hp} : ∀ {kvs : List (List Key × V)} {bs : List Addr} {tab : Tab}, IsKeys H kvs bs → TRel K B kvs tab →
    ∃ Z : List (List Key × Addr × PyData), (kvs.map Prod.fst).zip bs = Z.map (fun z => (z.1, z.2.1)) ∧ tab = Z.map (fun z => (z.1, z.2.2)) ∧ ∀ z ∈ Z, H z.2.1 = some (.tup (z.1.map kV))
  | [], _, _, hk, ht => by
    cases hk
    cases ht
    exact ⟨[], rfl, rfl, fun _ h => by cases h⟩
  | kv :: kvs, _, _, hk, ht => by
    cases hk with
    | cons h1 h2 =>
      cases ht with
      | cons h3 h4 =>
        rename_i b bs _ _ d tab
        obtain ⟨Z, e1, e2, e3⟩ := keys_join h2 h4
        rename_i k0 v0
        refine ⟨(k0, b, d) :: Z, ?_, ?_, fun z hz => ?_⟩
        · rw [List.map_cons, List.map_cons, List.zip_cons_cons, e1]
        · rw [List.map_cons, ← e2]
        · rcases List.mem_cons.mp hz with rfl | hz
          · exact h1
          · exact e3 z hz
section
variable {K : PySem.W.Frag} {C P : Addr} {q : Str} {E : XK} {XP : Addr → SM → Prop} {ρ : List Sl} {m : SM} {k : Rk → SM → Prop} {i j : Nat}
theorem we_ents (hC : Cls K C) (hN : NoAttr K C "_table") (hi : ρ[i]? = some (.v (.ref m.s))) (hij : i ≠ j) (hj : j < ρ.length) (hT : TabOk m.tab) (hl : m.tab.length ≤ 80000) (hk : k (.o (entsD m.tab)) m) :
    WE (stoR K C P q) K E XP ρ m (tLc (iList K (tCB rSortKT (tCons (tFld K (tVar i) "_table") tNil))) (gName j) tYes (tOp (rCatA K) (tVar j) (tDGet (tFld K (tVar i) "_table") (tVar j))) [j]) k := by
  unfold WE
  intro F0 H0 B0 F H B σ D Q qq
  obtain ⟨w, h1, h2⟩ := D.s i _ hi
  cases (show w = some (.ref m.s) from h2)
  obtain ⟨dx, h3⟩ := D.r.1
  obtain ⟨kvs, h4, h5⟩ := D.r.2.1
  refine ⟨_, h1, m.s, C, dx, _, _, rfl, h3, hC, hN, rfl, m.t, kvs, rfl, h4, fun z hz => ?_, fun p bs hp hkeys => ⟨p, rfl, ⟨_, sql upd_same⟩, fun A hA => ?_⟩⟩
  · have : z.1 ∈ m.tab.map Prod.fst := by rw [← h5.keys]; exact List.mem_map_of_mem hz
    obtain ⟨y, hy, e⟩ := List.mem_map.mp this
    rw [← e]; exact hT.k y hy
  obtain ⟨Z, z1, z2, z3⟩ := keys_join hkeys h5
  have hZ1 : (srtK ((kvs.map Prod.fst).zip bs)) = (srtK Z).map fun z => (z.1, z.2.1) := by rw [z1]; exact (srt_map Prod.fst Z).symm
  have hZ2 : srtT m.tab = (srtK Z).map fun z => (z.1, z.2.2) := by unfold srtT; rw [z2]; exact (srt_map Prod.snd Z).symm
  have hZm : ∀ z ∈ srtK Z, (z.1, z.2.2) ∈ m.tab ∧ H z.2.1 = some (.tup (z.1.map kV)) := fun z hz => by
    have := srt_mem.mp hz
    exact ⟨by rw [z2]; exact List.mem_map.mpr ⟨z, this, rfl⟩, z3 z this⟩
  have hent : entsD m.tab = (srtK Z).map fun z => entRow (z.1, z.2.2) := by
    unfold entsD
    rw [hZ2, List.map_map]; rfl
  have hzl : (srtK Z).length ≤ 80000 := by
    rw [srt_len]
    have := congrArg List.length z2
    rw [List.length_map] at this
    omega
  have hL : ((srtK ((kvs.map Prod.fst).zip bs)).map fun z => V.ref z.2) = (srtK Z).map fun z => V.ref z.2.1 := by rw [hZ1, List.map_map]; rfl
  rw [hL] at hA ⊢
  generalize hZs : srtK Z = S at *
  have D1 := D.newO (o := .lst (S.map fun z => V.ref z.2.1)) hp
  have q1 : Stq F H B F (upd H p (.lst (S.map fun z => V.ref z.2.1))) B := .newO D.st.s hp
  generalize hH1 : upd H p (.lst (S.map fun z => V.ref z.2.1)) = H1 at *
  have hp1 : H1 p = some (.lst (S.map fun z => V.ref z.2.1)) := by rw [← hH1]; exact upd_same
  have sH : Same H H1 := by rw [← hH1]; exact same_upd hp
  have hA0 : H0 A = none := Classical.byContradiction fun z => D1.st.e A z hA
  have hAn : ∀ (i : Nat) (xs : List PyData), ρ[i]? = some (.o xs) → σ[i]? ≠ some (some (.ref A)) := fun i xs g1 g2 => D1.own i xs A g1 g2 hA
  have hjl : j < σ.length := by rw [D.l]; exact hj
  have hbA : B A = none := b_none D1.st.s hA
  refine lc_it (walk_list (K := K) (a := p) (xs := S.map fun z => V.ref z.2.1)) (fun n G => ∃ B' us, DS (stoR K C P q) K E XP F0 H0 B0 F G B' σ ρ m ∧ Stq F H1 B F G B' ∧ Same H1 G ∧ G A = some (.lst us) ∧ B' A = none ∧ ¬ F A ∧ DqAll K B' us ((S.map fun z => entRow (z.1, z.2.2)).take n))
    ⟨B, [], D1.newO hA, .newO D1.st.s hA, same_upd hA, upd_same, hbA, D1.nF hA, .nil⟩ (fun n G _ ⟨_, _, _, _, s', _⟩ => sql (s' _ _ hp1)) ?_ ?_
  · rintro n x G G2 hn ⟨B', us, D', q', s', eA, bA, fA, hd⟩ ⟨rfl, hx⟩
    rw [List.length_map] at hn
    rw [List.getElem?_map, List.getElem?_eq_getElem hn] at hx
    cases hx
    obtain ⟨hm, hkey⟩ := hZm _ (List.getElem_mem hn)
    generalize hz : S[n] = z at hm hkey
    obtain ⟨kk, b, d⟩ := z
    obtain ⟨x, y, rfl⟩ : Pr kk := hT.k _ hm
    obtain ⟨bo, v, c, rfl⟩ := hT.v _ hm
    have hkG : G2 b = some (.tup [.str x, .str y]) := s' _ _ (sH _ _ hkey)
    have hlk := lk_mem hT.nd hm
    obtain ⟨dx', g3⟩ := D'.r.1
    obtain ⟨kvs', g4, g5⟩ := D'.r.2.1
    obtain ⟨u, e1, e3⟩ : ∃ u, valV kvs' [.inr x, .inr y] = some u ∧ Dq K B' u (.tuple [.int bo, .int v, c]) := by
      rcases g5.get [.inr x, .inr y] with ⟨_, e2⟩ | ⟨u, d', e1, e2, e3⟩
      · rw [hlk] at e2; cases e2
      · rw [hlk] at e2; cases e2; exact ⟨u, e1, e3⟩
    obtain ⟨pe, ve, rfl, w1, w2⟩ := dq_tup e3
    have wl := dqa_len w2
    have hset : wipe ((wipe σ [j]).set j (some (V.ref b))) [j] = wipe σ [j] := by
      rw [wipe_set (List.mem_singleton.mpr rfl)]; exact wipe_idem σ [j]
    refine ⟨hset, ?_⟩
    unfold tYes
    refine (if_pos rfl).mpr ⟨V.ref b, List.getElem?_set_self (by rw [wipe_length]; exact hjl), ?_⟩
    have hsi : ((wipe σ [j]).set j (some (V.ref b)))[i]? = some (some (V.ref m.s)) := by
      rw [List.getElem?_set_ne (fun z => hij z.symm), wipe_out (fun z => hij (List.mem_singleton.mp z))]
      exact h1
    refine ⟨_, hsi, m.s, C, dx', _, _, rfl, g3, hC, hN, rfl, V.ref b, List.getElem?_set_self (by rw [wipe_length]; exact hjl), m.t, .ref pe, rfl, ?_, ?_⟩
    · rw [← e1]; exact DGet.t g4 hkG
    refine ⟨b, pe, [.str x, .str y], ve, rfl, rfl, sqt hkG, sqt_same D'.st.s w1, sz (by rw [wl]; show 2 + 3 ≤ _; omega), fun e => (by cases e), fun _ e => (by rw [e] at wl; cases wl), fun _ _ t ht => ?_⟩
    have hAt : A ≠ t := fun e => by rw [← e, eA] at ht; cases ht
    have D2 := D'.newD (o := .tup ([.str x, .str y] ++ ve)) ht
    have q2 : Stq F G2 B' F _ _ := .newD (o := .tup ([.str x, .str y] ++ ve)) D'.st.s ht
    have hd2 : DqAll K (upd B' t (.tup ([.str x, .str y] ++ ve))) us ((S.map fun z => entRow (z.1, z.2.2)).take n) := dqa_same q2.b _ hd
    have eA2 : upd G2 t (.tup ([.str x, .str y] ++ ve)) A = some (.lst us) := by rw [upd_ne hAt]; exact eA
    have bA2 : upd B' t (.tup ([.str x, .str y] ++ ve)) A = none := by rw [upd_ne hAt]; exact bA
    have hrow : Dq K (upd B' t (.tup ([.str x, .str y] ++ ve))) (.ref t) (entRow ([.inr x, .inr y], .tuple [.int bo, .int v, c])) :=
      .tup upd_same (.cons (.str x) (.cons (.str y) (dqa_same q2.b _ w2)))
    have htk : ((S.map fun z => entRow (z.1, z.2.2)).take (n + 1)) = ((S.map fun z => entRow (z.1, z.2.2)).take n) ++ [entRow ([.inr x, .inr y], .tuple [.int bo, .int v, c])] :=
      take_succ_app (by rw [List.getElem?_map, List.getElem?_eq_getElem hn, hz]; rfl)
    have hul := dqa_len hd
    rw [List.length_take] at hul
    refine ⟨us, eA2, szl (by omega), _, us ++ [.ref t], D2.putN bA2 fA hA0 hAn, (q'.trans q2).put hA bA2, fun a o ha => ?_, upd_same, bA2, fA, by rw [htk]; exact dqa_app hd2 (.cons hrow .nil)⟩
    have hAa : a ≠ A := fun e => by rw [e, hA] at ha; cases ha
    rw [upd_ne hAa]
    have := s' a o ha
    rw [upd_ne (fun e => by rw [e, ht] at this; cases this)]
    exact this
  · rintro G ⟨B', us, D', q', s', eA, bA, fA, hd⟩
    rw [List.length_map, ← List.length_map (f := fun z : List Key × Addr × PyData => entRow (z.1, z.2.2)), List.take_length, ← hent] at hd
    exact qq _ _ m F G B' hk D' (q1.trans q') ⟨A, us, rfl, eA, bA, fA, Classical.byContradiction fun z => q1.e A z hA, hd⟩
end
/-! ## a list is shown to a def that answers with a scalar or a new list of scalars -/
theorem dqa_sc2 {K : PySem.W.Frag} {B B' : Hp} : ∀ {vs : List V} {xs : List PyData}, DqAll K B vs xs → xs.all isScD = true → DqAll K B' vs xs
  | _, _, .nil, _ => .nil
  | _, _, .cons (d := x) h a, e => by
    rw [List.all_cons, Bool.and_eq_true] at e
    have hv := dq_scV h e.1
    refine .cons ?_ (dqa_sc2 a e.2)
    rw [hv]
    cases x <;> first | constructor | cases e.1
def scR : Rk → Bool
  | .d x => isScD x
  | .o xs => xs.all isScD
  | _ => false
theorem we_callPl {M : Type} {R : MR M} {K : PySem.W.Frag} {E : XK} {XP : Addr → M → Prop} {ρ : List Sl} {m : M} {k : Rk → M → Prop} {tr : TA} {E' : XK} {pre : List PyData → Prop} {post : List PyData → Rk → Prop}
    (h : WA R K E XP ρ m tr fun rs m1 => ∃ ds, DLl rs = some ds ∧ pre ds ∧ ∀ r, post ds r → scR r = true ∧ k r m1) : WE R K E XP ρ m (tCall (spP K pre post) [] E' tr) k := by
  unfold WE WA at *
  intro F0 H0 B0 F H B σ D Q q
  refine h D _ fun vs rs m1 F1 H1 B1 ⟨ds, e, hp, hk⟩ D1 q1 r1 => ?_
  obtain ⟨By, g1, g2, g3⟩ := toDl (Same.refl _) D1.st.s r1 e
  rw [List.append_nil]
  refine ⟨ds, By, g3, g2, hp, fun v r H' B' hr s b t f rel => ?_⟩
  obtain ⟨hx, hkx⟩ := hk r hr
  refine q v r m1 F1 H' B1 hkx (D1.pure s (Same.refl _) (D1.st.s.trans s) fun _ _ z => z) (q1.trans (.pure s (Same.refl _) (D1.st.s.trans s) fun _ _ z => z)) ?_
  cases r with
  | d x =>
    have hv : v = scV x := dq_scV rel hx
    show Dq K B1 v x
    rw [hv]
    cases x <;> first | constructor | cases hx
  | o xs =>
    obtain ⟨p, vs, rfl, w1, w2, w3, w4⟩ := rel
    exact ⟨p, vs, rfl, w1, b_none D1.st.s w3, D1.nF w3, Classical.byContradiction fun z => q1.e p z w3, dqa_sc2 w4 hx⟩
  | l _ => cases hx
  | v _ => cases hx
  | c _ => cases hx
/-! # digits of a script's cells -/
/-! the digits of a script's cell -/
def Digs : List Int → List Int → Prop
  | [], [] => True
  | d :: ds, z :: zs => (0 ≤ d ∧ d < z) ∧ Digs ds zs
  | _, _ => False
theorem digs_snoc : ∀ {ds zs : List Int} {d z : Int}, Digs ds zs → 0 ≤ d → d < z → Digs (ds ++ [d]) (zs ++ [z])
  | [], [], _, _, _, h0, h1 => ⟨⟨h0, h1⟩, trivial⟩
  | _ :: _, _ :: _, _, _, h, h0, h1 => ⟨h.1, digs_snoc h.2 h0 h1⟩
theorem digs_len : ∀ {ds zs : List Int}, Digs ds zs → ds.length = zs.length
  | [], [], _ => rfl
  | _ :: ds, _ :: zs, h => by rw [List.length_cons, List.length_cons, digs_len h.2]
theorem digs1 {ds : List Int} {z : Int} (h : Digs ds [z]) : ∃ d, ds = [d] ∧ 0 ≤ d ∧ d < z := by
  match ds, h with
  | [d], h => exact ⟨d, rfl, h.1.1, h.1.2⟩
  | _ :: _ :: _, h => exact h.2.elim
theorem digs2 {ds : List Int} {z y : Int} (h : Digs ds [z, y]) : ∃ d e, ds = [d, e] ∧ (0 ≤ d ∧ d < z) ∧ (0 ≤ e ∧ e < y) := by
  match ds, h with
  | d :: es, h => obtain ⟨e, rfl, h1⟩ := digs1 h.2; exact ⟨d, e, rfl, h.1, h1⟩
theorem digs3 {ds : List Int} {z y x : Int} (h : Digs ds [z, y, x]) : ∃ d e f, ds = [d, e, f] ∧ (0 ≤ d ∧ d < z) ∧ (0 ≤ e ∧ e < y) ∧ (0 ≤ f ∧ f < x) := by
  match ds, h with
  | d :: es, h => obtain ⟨e, f, rfl, h1⟩ := digs2 h.2; exact ⟨d, e, f, rfl, h.1, h1⟩
theorem digs4 {ds : List Int} {z y x w : Int} (h : Digs ds [z, y, x, w]) : ∃ d e f g, ds = [d, e, f, g] ∧ (0 ≤ d ∧ d < z) ∧ (0 ≤ e ∧ e < y) ∧ (0 ≤ f ∧ f < x) ∧ (0 ≤ g ∧ g < w) := by
  match ds, h with
  | d :: es, h => obtain ⟨e, f, g, rfl, h1⟩ := digs3 h.2; exact ⟨d, e, f, g, rfl, h.1, h1⟩
theorem digs5 {ds : List Int} {z y x w v : Int} (h : Digs ds [z, y, x, w, v]) : ∃ d e f g k, ds = [d, e, f, g, k] ∧ (0 ≤ d ∧ d < z) ∧ (0 ≤ e ∧ e < y) ∧ (0 ≤ f ∧ f < x) ∧ (0 ≤ g ∧ g < w) ∧ (0 ≤ k ∧ k < v) := by
  match ds, h with
  | d :: es, h => obtain ⟨e, f, g, k, rfl, h1⟩ := digs4 h.2; exact ⟨d, e, f, g, k, rfl, h.1, h1⟩
theorem digs6 {ds : List Int} {z y x w v u : Int} (h : Digs ds [z, y, x, w, v, u]) : ∃ d e f g k l, ds = [d, e, f, g, k, l] ∧ (0 ≤ d ∧ d < z) ∧ (0 ≤ e ∧ e < y) ∧ (0 ≤ f ∧ f < x) ∧ (0 ≤ g ∧ g < w) ∧ (0 ≤ k ∧ k < v) ∧ (0 ≤ l ∧ l < u) := by
  match ds, h with
  | d :: es, h => obtain ⟨e, f, g, k, l, rfl, h1⟩ := digs5 h.2; exact ⟨d, e, f, g, k, l, rfl, h.1, h1⟩
theorem digs8 {ds : List Int} {z y x w v u t s : Int} (h : Digs ds [z, y, x, w, v, u, t, s]) : ∃ d e f g k l m n, ds = [d, e, f, g, k, l, m, n] ∧ (0 ≤ d ∧ d < z) ∧ (0 ≤ e ∧ e < y) ∧ (0 ≤ f ∧ f < x) ∧ (0 ≤ g ∧ g < w) ∧ (0 ≤ k ∧ k < v) ∧ (0 ≤ l ∧ l < u) ∧ (0 ≤ m ∧ m < t) ∧ (0 ≤ n ∧ n < s) := by
  match ds, h with
  | d :: e :: es, h => obtain ⟨f, g, k, l, m, n, rfl, h1⟩ := digs6 h.2.2; exact ⟨d, e, f, g, k, l, m, n, rfl, h.1, h.2.1, h1⟩
def sp_num (K : PySem.W.Frag) : Sp := fun vs H Q _ => ∃ (a : Addr) (ns : List Int) (k : Int), vs = [.ref a, .int k] ∧ SqL K H a (ns.map V.int) ∧ (0 ≤ k ∧ k ≤ 10000) ∧ ∀ n : Int, 0 ≤ n → Q (.int n) H
def sp_digits (K : PySem.W.Frag) : Sp := fun vs H Q _ => ∃ (a b : Addr) (ns zs : List Int) (k : Int), vs = [.ref a, .int k, .ref b] ∧ SqL K H a (ns.map V.int) ∧ (0 ≤ k ∧ k ≤ 10000) ∧ SqL K H b (zs.map V.int) ∧ zs.length ≤ 1000 ∧ (∀ z ∈ zs, 0 < z ∧ z < 1073741824) ∧
  ∀ (p : Addr) (H' : Hp) (ds : List Int), H p = none → Same H H' → H' p = some (.lst (ds.map V.int)) → Digs ds zs → Q (.ref p) H'
/-! ## the script, as a part of the state: it only is read -/
def scrR (K : PySem.W.Frag) : MR (Addr × List Int) where
  rel := fun m F H B => (∃ u, H m.1 = some u ∧ Rd H m.1 (.lst (m.2.map V.int)) ∧ (∀ x, F x ↔ x = m.1) ∧ B m.1 = none) ∨ ((∀ G, SqL K G m.1 (m.2.map V.int)) ∧ ∀ x, ¬ F x)
  frame := fun {m F H B H' B'} h e s n => by
    rcases h with ⟨u, h1, h2, h3, h4⟩ | h
    · have eH : H' m.1 = H m.1 := e _ ((h3 _).mpr rfl)
      refine .inl ⟨u, by rw [eH]; exact h1, ?_, h3, n _ ((h3 _).mpr rfl)⟩
      unfold Rd at h2 ⊢
      rw [eH]; exact h2
    · exact .inr h
  dom := fun {m F H B x} h hx => by
    rcases h with ⟨u, h1, h2, h3, h4⟩ | ⟨h1, h2⟩
    · rw [(h3 x).mp hx]; exact ⟨by rw [h1]; simp, h4⟩
    · exact absurd hx (h2 x)
theorem scr_sql {K : PySem.W.Frag} {m : Addr × List Int} {F : AP} {H B : Hp} (h : (scrR K).rel m F H B) : SqL K H m.1 (m.2.map V.int) := by
  rcases h with ⟨u, h1, h2, h3, h4⟩ | ⟨h1, h2⟩
  · exact .inl h2
  · exact h1 H
/-- what is read of the script in the beginning -/
theorem scr_new {K : PySem.W.Frag} {H : Hp} {a : Addr} {ns : List Int} (h : SqL K H a (ns.map V.int)) : ∃ F2 : AP, (∀ B : Hp, B a = none → (scrR K).rel (a, ns) F2 H B) ∧ (∀ x, F2 x → x = a ∧ H a ≠ none) := by
  rcases h with h | h
  · have hu : ∃ u, H a = some u := by
      rcases h with h | ⟨o, h⟩
      · exact ⟨_, h⟩
      · exact ⟨_, h⟩
    obtain ⟨u, hu⟩ := hu
    exact ⟨fun x => x = a, fun B hb => .inl ⟨u, hu, h, fun _ => Iff.rfl, hb⟩, fun x hx => ⟨hx, by rw [hu]; simp⟩⟩
  · exact ⟨fun _ => False, fun B _ => .inr ⟨fun G => .inr h, fun _ => id⟩, fun x hx => hx.elim⟩
theorem we_dig {M : Type} {R : MR M} {get : M → Addr × List Int} {set : M → Addr × List Int → M} {K : PySem.W.Frag} {E : XK} {XP : Addr → M → Prop} {ρ : List Sl} {m : M} {k : Rk → M → Prop} {tr : TA} {E' : XK} (L : Part R (scrR K) get set) (zs : List Int) (h2 : zs.length ≤ 1000) (h3 : ∀ z ∈ zs, 0 < z ∧ z < 1073741824)
    (h : WA R K E XP ρ m tr fun rs m1 => ∃ (j : Int) (r : Rk), rs = [.v (.ref (get m1).1), .d (.int j), r] ∧ LR r (zs.map .int) ∧ 0 ≤ j ∧ j ≤ 10000 ∧ ∀ ds : List Int, Digs ds zs → k (.o (ds.map .int)) m1) : WE R K E XP ρ m (tCall (sp_digits K) [] E' tr) k := by
  unfold WE WA at *
  intro F0 H0 B0 F H B σ D Q q
  refine h D _ fun vs rs m1 F1 H1 B1 ⟨j, r, e, hl, h0, h1, hk⟩ D1 q1 r1 => ?_
  subst e
  rw [List.append_nil]
  match vs, r1 with
  | [v1, v2, v3], ⟨g1, g2, g3, _⟩ =>
    cases (show v1 = .ref (get m1).1 from g1)
    cases dq_int g2
    obtain ⟨p, us, rfl, w1, w2⟩ := rel_lst D1.st.s g3 hl
    obtain ⟨F2, r2, _⟩ := L.on D1.r
    have eu : us = zs.map V.int := by
      have : ∀ {us : List V} {zs : List Int}, DqAll K B1 us (zs.map .int) → us = zs.map V.int := fun {us zs} => by
        induction zs generalizing us with
        | nil => intro h; cases h; rfl
        | cons z zs ih =>
          intro h
          cases h with
          | cons a b => rw [dq_int a, ih b]; rfl
      exact this w2
    subst eu
    refine ⟨_, p, _, zs, j, rfl, scr_sql r2, ⟨h0, h1⟩, sql w1, h2, h3, fun p' H' ds hp s2 hH' hD => ?_⟩
    refine q (.ref p') (.o (ds.map .int)) m1 F1 H' B1 (hk ds hD) (D1.pure s2 (Same.refl _) (D1.st.s.trans s2) fun _ _ z => z) (q1.trans (.pure s2 (Same.refl _) (D1.st.s.trans s2) fun _ _ z => z)) ⟨p', _, rfl, hH', b_none D1.st.s hp, D1.nF hp, Classical.byContradiction fun z => q1.e p' z hp, ?_⟩
    exact dqa_nums _ _
/-! ## a def's body, entered with what stands -/
theorem enterG {M : Type} {R : MR M} {K : PySem.W.Frag} {E : XK} {m : M} {F : AP} {H B : Hp} {σ : L2.St} {ρ : List Sl} {ts : TS} {D : Ends} {rt : Rk → M → Prop} (hR : R.rel m F H B) (hB : Same B H) (hl : σ.length = ρ.length)
    (hs : ∀ (i : Nat) (t : Sl), ρ[i]? = some t → ∃ w, σ[i]? = some w ∧ (t = .u ∨ ∃ x, t = .v x ∧ w = some x))
    (fin : ∀ v r m' F' H' B', rt r m' → Stq F H B F' H' B' → R.rel m' F' H' B' → RelR K H F' H' B' v r → D.rt v H')
    (body : WS R K E (fun _ _ => False) ρ m ts (fun _ _ => False) rt (fun _ _ => False) (fun _ _ => False)) : ts D σ H := by
  have nu : ∀ (i : Nat) (xs : List PyData), ρ[i]? ≠ some (.o xs) := fun i xs e => by
    obtain ⟨w, _, z | ⟨x, z, _⟩⟩ := hs i _ e <;> cases z
  have D0 : DS R K E (fun _ _ => False) F H B F H B σ ρ m := by
    refine ⟨hl, .refl hB, hR, fun i t ht => ?_, fun i j p xs ys h1 => absurd h1 (nu i xs), fun _ _ _ _ _ z => z.elim⟩
    obtain ⟨w, h1, rfl | ⟨x, rfl, rfl⟩⟩ := hs i t ht
    · exact ⟨w, h1, True.intro⟩
    · exact ⟨_, h1, rfl⟩
  unfold WS at body
  exact body _ D0 (fun z => z.elim) (fun {v r m' F' H' B'} hk st hF rel => fin v r m' F' H' B' hk st hF rel) (fun z => z.elim) (fun z => z.elim)
/-- a new store and the script -/
theorem st2_new {K : PySem.W.Frag} {H : Hp} {C P a s t c dx : Addr} {q : Str} {ns : List Int} (hs : H s = some (.ins C dx (fSto (sm0 s t c)))) (ht : H t = some (.dT [])) (hc : H c = some (.lst [])) (hT : LamX.TabS H P q) (hS : (Rd H a (.lst (ns.map V.int)) ∧ a ≠ c) ∨ ∀ G, SqL K G a (ns.map V.int)) :
    ∃ F, (prM (stoR K C P q) (scrR K)).rel (sm0 s t c, (a, ns)) F H (fun _ => none) := by
  obtain ⟨tb, h1, h2, h3⟩ := hT
  obtain ⟨F2, r2, f2, hac⟩ : ∃ F2 : AP, (∀ B : Hp, B a = none → (scrR K).rel (a, ns) F2 H B) ∧ (∀ x, F2 x → x = a ∧ H a ≠ none) ∧ ∀ x, F2 x → a ≠ c := by
    rcases hS with ⟨h, n⟩ | h
    · have hu : ∃ u, H a = some u := by
        rcases h with h | ⟨o, h⟩
        · exact ⟨_, h⟩
        · exact ⟨_, h⟩
      obtain ⟨u, hu⟩ := hu
      exact ⟨fun x => x = a, fun B hb => .inl ⟨u, hu, h, fun _ => Iff.rfl, hb⟩, fun x hx => ⟨hx, by rw [hu]; simp⟩, fun _ _ => n⟩
    · exact ⟨fun _ => False, fun B _ => .inr ⟨h, fun _ => id⟩, fun x hx => hx.elim, fun x hx => hx.elim⟩
  have hd : ∀ x, F2 x → ∀ u, H x = some u → (∀ ys, u = .lst ys → x = a) ∧ (∀ C dx fs, u ≠ .ins C dx fs) ∧ u ≠ .dT [] ∧ (∀ ps, u ≠ .tbl ps) ∧ ∀ q, u ≠ LamX.CodeO x q := fun x hx u e => by
    obtain ⟨rfl, _⟩ := f2 x hx
    have hu : (∃ ys, u = .lst ys) ∨ ∃ o ys, u = .frz o (.lst ys) := by
      rcases r2 (fun _ => none) rfl with ⟨u', g1, g2, _⟩ | ⟨_, g2⟩
      · rcases g2 with g2 | ⟨o, g2⟩
        · rw [e] at g2; cases g2; exact .inl ⟨_, rfl⟩
        · rw [e] at g2; cases g2; exact .inr ⟨_, _, rfl⟩
      · exact absurd hx (g2 _)
    refine ⟨fun _ _ => rfl, fun C dx fs z => ?_, fun z => ?_, fun ps z => ?_, fun q z => ?_⟩
    all_goals (rcases hu with ⟨ys, rfl⟩ | ⟨o, ys, rfl⟩ <;> first | cases z | (unfold LamX.CodeO at z; cases z))
  let F1 : AP := fun x => x = s ∨ x = t ∨ x = c ∨ x = P ∨ H x = some (LamX.CodeO x q)
  have dj : ∀ x, F1 x → ¬ F2 x := fun x h1' h2' => by
    rcases h1' with e | e | e | e | e
    · subst e; exact (hd _ h2' _ hs).2.1 _ _ _ rfl
    · subst e; exact (hd _ h2' _ ht).2.2.1 rfl
    · exact hac x h2' ((f2 x h2').1.symm.trans e)
    · subst e; exact (hd _ h2' _ h1).2.2.2.1 _ rfl
    · exact (hd _ h2' _ e).2.2.2.2 _ rfl
  have hdom : ∀ x, F1 x → H x ≠ none ∧ (fun _ => none : Hp) x = none := fun x hx => by
    refine ⟨?_, rfl⟩
    rcases hx with e | e | e | e | e
    · subst e; rw [hs]; simp
    · subst e; rw [ht]; simp
    · subst e; rw [hc]; simp
    · subst e; rw [h1]; simp
    · rw [e]; simp
  exact ⟨fun x => F1 x ∨ F2 x, F1, F2, fun _ => Iff.rfl, dj, ⟨⟨dx, hs⟩, ⟨[], ht, .nil⟩, ⟨[], hc, .nil⟩, ⟨tb, h1, h2, fun pos cv e => by
    obtain ⟨x, e1, e2⟩ := h3 pos cv e
    exact ⟨x, e1, e2, .inr (.inr (.inr (.inr e2)))⟩⟩, .inl rfl, .inr (.inl rfl), .inr (.inr (.inl rfl)), .inr (.inr (.inr (.inl rfl))), hdom⟩, r2 _ rfl⟩
/-- the script is read as before, behind what is new -/
theorem scr_keep {K : PySem.W.Frag} {H H2 : Hp} {a c : Addr} {ns : List Int} (hS : SqL K H a (ns.map V.int)) (k : ∀ y o, H y = some o → H2 y = some o) (hc : H c = none) : (Rd H2 a (.lst (ns.map V.int)) ∧ a ≠ c) ∨ ∀ G, SqL K G a (ns.map V.int) := by
  rcases hS with (h | ⟨o, h⟩) | h
  · exact .inl ⟨.inl (k _ _ h), fun z => by rw [z, hc] at h; cases h⟩
  · exact .inl ⟨.inr ⟨o, k _ _ h⟩, fun z => by rw [z, hc] at h; cases h⟩
  · exact .inr fun G => .inr h
abbrev R2 (K : PySem.W.Frag) (C P : Addr) (q : Str) : MR (SM × Addr × List Int) := prM (stoR K C P q) (scrR K)
def sp_filled (K : PySem.W.Frag) (C P : Addr) (q : Str) (Good : SM → Prop) : Sp := fun vs H Q _ => ∃ (a : Addr) (ns : List Int), vs = [.ref a] ∧ SqL K H a (ns.map V.int) ∧ LamX.TabS H P q ∧ ∀ m F B H', Good m → (R2 K C P q).rel (m, a, ns) F H' B → Same B H' → Q (.ref m.s) H'
/-! ## (a, b, ..) = a list -/
theorem pgK_unl {K : PySem.W.Frag} {X : Cx} {pos : Pos} {es : List Expr} {k : Nat} {t : TGs} {n : Nat} (hK : X.K = K) (hc : X.calm = true) (h : PGs X es t) (hn : (assignEach es X.env).length = n := by rfl) (hst : (assignEach es X.env).findIdx? (·.1) = none := by rfl) : PG X (.Tuple es k pos) (gUnl K n t) := by subst hK; exact pg_unl hc h hn hst
theorem ws_asgU {M : Type} {R : MR M} {K : PySem.W.Frag} {E : XK} {XP : Addr → M → Prop} {ρ : List Sl} {m : M} {nx : List Sl → M → Prop} {rt : Rk → M → Prop} {bk ct : List Sl → M → Prop} {te : TE} {gs : TGs} {n : Nat} (h : WE R K E XP ρ m te fun r m1 => ∃ xs, LR r xs ∧ xs.length = n ∧ WGs R K E XP ρ m1 gs xs fun ρ' => nx ρ' m1) : WS R K E XP ρ m (tAsg te (gUnl K n gs)) nx rt bk ct := by
  unfold WE at h
  unfold WS
  intro F0 H0 B0 F H B σ D d n' _ _ _
  refine h d _ fun v r m1 F1 H1 B1 ⟨xs, hl, hn, k1⟩ D1 q1 r1 => ?_
  unfold WGs at k1
  obtain ⟨p, vs, rfl, w1, w2⟩ := rel_lst D1.st.s r1 hl
  exact ⟨p, vs, rfl, sql w1, by rw [dqa_len w2]; exact hn, k1 D1 w2 _ fun σ' ρ' hk D2 => n' hk D2 q1.b⟩
/-- a slot's own list becomes data behind a statement -/
theorem ws_fz {M : Type} {R : MR M} {K : PySem.W.Frag} {E : XK} {XP : Addr → M → Prop} {ρ : List Sl} {m : M} {nx bk ct : List Sl → M → Prop} {rt : Rk → M → Prop} {t : TS} (i : Nat) (h : WS R K E XP ρ m t (fun ρ' m' => ∃ xs, ρ'[i]? = some (.o xs) ∧ nx (ρ'.set i (.d (.list xs))) m') rt bk ct) : WS R K E XP ρ m t nx rt bk ct := by
  unfold WS at h ⊢
  intro F0 H0 B0 F H B σ D d n r b c
  refine h D d (fun {σ' ρ' m' F' H' B'} hk D' s' => ?_) r b c
  obtain ⟨xs, h1, h2⟩ := hk
  obtain ⟨B2, D2, s2, _⟩ := D'.freezeS h1
  exact n h2 D2 (s'.trans s2)
/-! # del xs[:c] -/
theorem drop_sel : ∀ (xs : List Value) (c n : Nat), (xs.zipIdx n).filterMap (fun p => if (decide ((0 : Int) ≤ (p.2 : Int)) && decide ((p.2 : Int) < (c : Int)) && ((p.2 : Int) - 0) % 1 == 0) = true then none else some p.1) = xs.drop (c - n)
  | [], c, n => by simp
  | x :: xs, c, n => by
    rw [List.zipIdx_cons, List.filterMap_cons]
    have ih := drop_sel xs c (n + 1)
    have h0 : decide ((0 : Int) ≤ (n : Int)) = true := decide_eq_true (by omega)
    have h1 : (((n : Int) - 0) % 1 == 0) = true := by simp
    by_cases h : n < c
    · have h2 : decide ((n : Int) < (c : Int)) = true := decide_eq_true (by omega)
      simp only [h0, h1, h2, Bool.and_true, if_true]
      rw [ih, show c - n = (c - (n + 1)) + 1 by omega, List.drop_succ_cons]
    · have h2 : decide ((n : Int) < (c : Int)) = false := decide_eq_false (by omega)
      simp only [h0, h1, h2, Bool.and_true, Bool.and_false, Bool.false_eq_true, if_false]
      rw [ih, show c - n = 0 by omega, show c - (n + 1) = 0 by omega, List.drop_zero, List.drop_zero]
theorem bounds_to {c n : Nat} (hc : c ≤ n) : sliceBounds none (some (c : Int)) none n = (0, (c : Int), 1) := by
  simp only [sliceBounds, Option.getD_none]
  have h2 : ¬ ((c : Int) < 0) := by omega
  simp only [h2, if_false, show (1 : Int) > 0 by decide, if_true]
  congr 1
  congr 1; omega
section
open PySem.W PyProof.Rows HT
variable {prog : Program} {w : World} {A : Around} {E : Value → Shared → Prop} {s : Shared}
set_option maxRecDepth 100000 in
theorem delItem_slice {l sl : Addr} {items : Array Value} {n : Nat} {vu : Value} {c : Nat} {Q : Unit → Shared → Prop}
    (e : s.heap.get? l = some { cls := .type "list", data := .seq items n }) (hs : s.heap.IsSliceOf sl .none vu .none) (pu : IsPart vu (some (c : Int))) (hc : c ≤ items.size) (hsz : items.size ≤ sizeLine)
    (h : Q () { s with heap := s.heap.update l (Obj.mapSeq fun xs => (xs.toList.drop c).toArray) }) : wpAny (model prog w) A (delItem (.ref l) (.ref sl)) Q E s := by
  have hl : s.heap.IsList l items := PySem.IsL.isList e
  obtain ⟨os, hos, hcs, hds⟩ := id hs
  have hTs : s.TypeIs (.ref sl) "slice" := ⟨os, hos, hcs⟩
  have hstep : ¬ ((rawPart none == rawInt 0) = true) := Bool.false_ne_true
  refine wpAny_delItem_slot hl.typeIs (by decide) F.slot_list_delitem (wpAny_call_entry F.slot_list_delitem hl.typeIs F.entry_list_delitem ?_ (F.args_list_delitem_2 _ _))
  unfold Builtin.«list.__delitem__»
  show wpAny _ A.in1 (Builtin.List.listSubscript? (.ref sl) >>= _) _ _ s
  unfold Builtin.List.listSubscript?
  refine wpAny_bind (wpAny_bind (wpAny_specialOf hTs slice_no_index ?_))
  simp only [Option.isNone_none, if_true]
  refine wpAny_pure ?_
  show wpAny _ A.in1 (typeOf (.ref sl) >>= _) _ _ s
  refine wpAny_bind (wpAny_typeOf hTs ?_)
  refine PySem.W.KFB.if_not (by decide) ?_
  rw [listSliceParts_eq]
  refine wpAny_bind (wpAny_bind (wpAny_field hos hds (x := Value.none) rfl (wpAny_bind (wpAny_listPart .none ?_))))
  rw [if_neg hstep]
  refine wpAny_bind (wpAny_field hos hds (x := Value.none) rfl (wpAny_bind (wpAny_listPart .none ?_)))
  refine wpAny_bind (wpAny_field hos hds (x := vu) rfl (wpAny_bind (wpAny_listPart pu (wpAny_pure ?_))))
  unfold Builtin.List.listItems
  refine wpAny_bind (wpAny_bind (wpAny_seqItems e rfl (wpAny_pure ?_)))
  refine wpAny_bind (wpAny_of_eq ((sliceIndices_raw none (some (c : Int)) none items.size (by simp)).trans (congrArg (pure : Int × Int × Int → Sem (Int × Int × Int)) (bounds_to hc))) ?_)
  refine wpAny_bind (wpAny_rule ?_)
  have hf : ∀ xs : Array Value, (xs.toList.zipIdx.filterMap fun p => if (decide ((0 : Int) ≤ (p.2 : Int)) && decide ((p.2 : Int) < (c : Int)) && ((p.2 : Int) - 0) % 1 == 0) = true then none else some p.1).toArray = (xs.toList.drop c).toArray := fun xs => by
    rw [drop_sel xs.toList c 0, Nat.sub_zero]
  refine wpAny_bind (listUpdate_at e rfl ?_ hsz ?_)
  · refine wpAny_bind (wpAny_letGo (wpAny_pure ⟨_, rfl, ?_⟩))
    have e2 : ∀ f : Array Value → Array Value, (∀ xs, f xs = (xs.toList.drop c).toArray) → Q () { s with heap := s.heap.update l (Obj.mapSeq f) } := fun f hff => by
      rw [show f = fun xs => (xs.toList.drop c).toArray from funext hff]
      exact h
    exact e2 _ hf
  · show Array.size _ ≤ sizeLine + 1
    refine Nat.le_trans ?_ (Nat.le_succ _)
    have := congrArg Array.size (hf items)
    refine Nat.le_trans (Nat.le_of_eq this) ?_
    simp only [List.size_toArray, List.length_drop, Array.length_toList]
    omega
end
def sDelSl (to tu : TE) : TS := fun D σ H => to σ H fun x H1 => tu σ H1 fun y H2 => ∃ (l : Addr) (xs : List V) (c : Int), x = .ref l ∧ y = .int c ∧ H2 l = some (.lst xs) ∧ 0 ≤ c ∧ c ≤ xs.length ∧ D.nx σ (upd H2 l (.lst (xs.drop c.toNat)))
section
variable {X : Cx}
theorem ps_delSl {o u : Expr} {to tu : TE} {pos tpos p2 : Pos} (ho : PE X o to) (hu : PE X u tu) : PS X (.Delete [.Subscript o (.Slice none (some u) none p2) tpos] pos) (sDelSl to tu) := by
  refine ⟨fun pins s σ H D I h => wpAny_Delete (wpAny_deleteEach_cons (wpAny_delete_Subscript (thn (ho.run pins s σ H _ I h) fun v s1 ⟨x, H1, I1, rx, q1⟩ => ?_)))⟩
  refine wpAny_Slice ?_
  rw [evalPart_none]
  refine wpAny_pure ?_
  rw [evalPart_some]
  refine thn (hu.run pins s1 σ H1 _ I1 q1) fun iv s2 ⟨y, H2, I2, ry, q2⟩ => ?_
  refine wpAny_pure ?_
  obtain ⟨l, xs, c, rfl, rfl, hH, h0, hc, q⟩ := q2
  obtain rfl : v = Value.ref l := rx
  obtain ⟨t, rfl⟩ := (show ∃ t, iv = Value.int c t from ry)
  obtain ⟨c', rfl⟩ := Int.eq_ofNat_of_zero_le h0
  have I4 : Inv X pins σ H2 { s2 with heap := s2.heap.push { cls := .type "slice", data := .fields #[Value.none, Value.int (c' : Int) t, Value.none] } } := I2.kept (t' := s2.toks) fun b ob q => Heap.get?_push_of_some _ q
  obtain ⟨z, its, n, r, hl, e⟩ := I4.lstM hH
  have hlen := hl
  refine delItem_slice (s := { s2 with heap := s2.heap.push { cls := .type "slice", data := .fields #[Value.none, Value.int (c' : Int) t, Value.none] } }) (c := c') e (Heap.IsSliceOf.new ..) (.int _ _) (by rw [List.size_toArray]; omega) (by rw [List.size_toArray]; omega) ?_
  refine wpAny_deleteEach_nil ⟨σ, upd H2 l (.lst (xs.drop c')), ?_, q⟩
  refine I4.lset (its' := its.drop c') (t' := s2.toks) hH e ?_ (r.drop _) ?_
  · rfl
  · rw [List.length_drop]; omega
end
/-! ## a method called with keywords -/
def tMethN (C : Addr) (mm : Str) (n k : Nat) (sp : Sp) (gV : List V → List V → List V) (E : XK) (ta : TE) (t tk : TA) : TE := fun σ H Q => ta σ H fun x H1 => ∃ a dx fs, x = .ref a ∧ H1 a = some (.ins C dx fs) ∧ fs.lookup mm = none ∧
  t σ H1 fun vs H2 => tk σ H2 fun zs H3 => vs.length + 1 = n ∧ zs.length = k ∧ sp (gV (x :: vs) zs) H3 Q E
section
variable {X : Cx}
theorem pe_methN {CX : CXT} {k n : Nat} {C f : Addr} {fd : FuncData} {ps ks : List Str} {mm : Str} {sp : Sp} {E : XK} {o e : Expr} {es : List Expr} {kws : List Keyword} {ta : TE} {t tk : TA} {g : List Value → List Value → List Value} {gV : List V → List V → List V} {apos pos : Pos} {pl : Sem Bool}
    (he : PE X o ta) (c : Cls X.K C) (hm : Meth X.K C mm f) (F : FnOk X.prog X.w X.K X.mg X.base CX k f fd ps sp) (hr : Room k X.A) (hb : KBn X.K fd ps n ks g gV) (hx : Passes CX X E) (ha : PA X (e :: es) t) (hkw : PK X kws tk)
    (hall : (backToKw pos (keywordEach kws X.env)).all (·.1.isSome) = true := by rfl) (hks : (backToKw pos (keywordEach kws X.env)).filterMap (·.1) = ks := by rfl)
    (hst : starEach (e :: es) X.env = (false, eval e X.env) :: starEach es X.env := by rfl) (hpl : ((backTo pos (starEach (e :: es) X.env)).any (·.1) || (backToKw pos (keywordEach kws X.env)).any (·.1.isNone)) = false := by rfl)
    (ht : eval (.Call (.Attribute o mm apos) (e :: es) kws pos) X.env = (do
      let ov ← eval o X.env
      standAt apos.atName
      let (f, first) ← holding [ov] (getMethod ov mm pl)
      callWith pos f first (backTo pos (starEach (e :: es) X.env)) (backToKw pos (keywordEach kws X.env))) := by rfl) :
    PE X (.Call (.Attribute o mm apos) (e :: es) kws pos) (tMethN C mm n ks.length sp gV E ta t tk) := by
  refine ⟨fun pins s σ H Q I h => ?_⟩
  refine PySem.W.methodCall_KW (pl := pl) (thn (he.run pins s σ H _ I h) fun u s1 ⟨x, H1, I1, rx, a, dx, fs, ex, ea, l, q⟩ => ?_) ht
  subst ex
  obtain rfl : u = Value.ref a := rx
  refine getmeth_ok I1 ea c hm l ?_
  refine PySem.W.callWith_KW (first := [.ref a]) (h₀ := X.base) I.ok.mod.kin hm.kp hall (thn (ha.run pos pins s1 σ H1 _ I1 q) fun us s2 ⟨vs, H2, I2, r, q2⟩ => ?_) hpl hst
  refine thn (hkw.run pos pins s2 σ H2 _ I2 q2) fun ws s3 ⟨zs, H3, I3, rz, l1, l2, q3⟩ => ⟨I3.kIn, ?_⟩
  rw [hks]
  exact run_fnN (us := .ref a :: us) (vs := .ref a :: vs) F hr hb hx I3 (.cons rfl r) rz (by rw [List.length_cons]; exact l1) l2 q3
end
/-! ## in the calculus -/
section
variable {M : Type} {R : MR M} {K : PySem.W.Frag} {E E' : XK} {XP : Addr → M → Prop} {ρ : List Sl} {m : M} {k : Rk → M → Prop} {tr tk : TA} {at_ : M → Addr} {pre : M → List PyData → Prop} {post : M → List PyData → Rk → M → Prop} {bad : M → List PyData → Addr → Prop}
/-- a method whose last arguments are left out -/
theorem we_methD {C : Addr} {mm : Str} {i : Nat} {dvs : List V} (hd : dvs.all isSc = true) (hc : ClsAt R at_ C mm) (hi : ρ[i]? = some (.v (.ref (at_ m))))
    (h : WA R K E XP ρ m tr fun rs m1 => ∃ ds, DLo rs = some ds ∧ at_ m1 = at_ m ∧ pre m1 (ds ++ dvs.map sc) ∧ (∀ D, ¬ bad m1 (ds ++ dvs.map sc) D) ∧ ∀ r m2, post m1 (ds ++ dvs.map sc) r m2 → k r m2) : WE R K E XP ρ m (tMeth C mm (spM R K at_ pre post bad) dvs E' (tVar i) tr) k := by
  unfold WE
  intro F0 H0 B0 F H B σ D Q q
  obtain ⟨w, h1, h2⟩ := D.s i _ hi
  cases (show w = some (.ref (at_ m)) from h2)
  obtain ⟨dx, fs, h3, h4⟩ := hc D.r
  refine ⟨_, h1, at_ m, dx, fs, rfl, h3, h4, wa_data h D _ fun vs ds m1 F1 H1 B1 ⟨ea, hp, hn, hk⟩ D1 q1 hd' => ?_⟩
  refine ⟨m1, vs ++ dvs, ds ++ dvs.map sc, F1, B1, by rw [ea], dqa_app hd' (dqa_sc hd), D1.st.s, D1.r, hp, fun v r m' F' H' B' hr st rl rel => ?_, fun C F' H' B' hb => absurd hb (hn C)⟩
  exact q v r m' F' H' B' (hk r m' hr) (D1.step st rl) (q1.trans st) (rel.base fun x hx => q1.e x hx)
/-- a method called with keywords -/
theorem we_methN {C : Addr} {mm : Str} {i n l : Nat} {gV : List V → List V → List V} (hg : ∀ x vs zs, gV (x :: vs) zs = x :: (vs ++ zs)) (hc : ClsAt R at_ C mm) (hi : ρ[i]? = some (.v (.ref (at_ m))))
    (h : WA R K E XP ρ m tr fun rs m1 => ∃ ds, DLo rs = some ds ∧ ds.length + 1 = n ∧ WA R K E XP ρ m1 tk fun qs m2 => ∃ es, DLo qs = some es ∧ es.length = l ∧ at_ m2 = at_ m ∧ pre m2 (ds ++ es) ∧ (∀ D, ¬ bad m2 (ds ++ es) D) ∧ ∀ r m3, post m2 (ds ++ es) r m3 → k r m3) : WE R K E XP ρ m (tMethN C mm n l (spM R K at_ pre post bad) gV E' (tVar i) tr tk) k := by
  unfold WE
  intro F0 H0 B0 F H B σ D Q q
  obtain ⟨w, h1, h2⟩ := D.s i _ hi
  cases (show w = some (.ref (at_ m)) from h2)
  obtain ⟨dx, fs, h3, h4⟩ := hc D.r
  refine ⟨_, h1, at_ m, dx, fs, rfl, h3, h4, wa_data h D _ fun vs ds m1 F1 H1 B1 ⟨hl, h'⟩ D1 q1 hd => ?_⟩
  refine wa_data h' D1 _ fun zs es m2 F2 H2 B2 ⟨hl2, ea, hp, hn, hk⟩ D2 q2 hz => ?_
  refine ⟨by rw [dqa_len hd]; exact hl, by rw [dqa_len hz]; exact hl2, m2, vs ++ zs, ds ++ es, F2, B2, by rw [hg, ea], dqa_app (dqa_same q2.b _ hd) hz, D2.st.s, D2.r, hp, fun v r m' F' H' B' hr st rl rel => ?_, fun C F' H' B' hb => absurd hb (hn C)⟩
  exact q v r m' F' H' B' (hk r m' hr) (D2.step st rl) ((q1.trans q2).trans st) (rel.base fun x hx => q2.e x (q1.e x hx))
end
theorem okMD {M : Type} {R : MR M} {P : Program} {w : World} {K : PySem.W.Frag} {mg : Str → Option Value} {base : Heap} {x qual : Str} {params : Arguments} {body : List Stmt} {scope : Scope} {dvs : List V} {kws : List (Str × V)} {f : Addr} {fd : FuncData} {N ps : List Str} {k : Nat} {at_ : M → Addr} {pre : M → List PyData → Prop} {post : M → List PyData → Rk → M → Prop}
    (F : FunD K x qual params body scope dvs kws f fd) (S : FnScope N ps scope) (n : Nat) (hn : N.length = ps.length + n) (len : ∀ m ds, pre m ds → ds.length + 1 = ps.length)
    (hb : ∀ (cdv : Value) (A : Around) (outer : List Env) (s : Shared) (H : Hp) (E : XK), Room k (A.deeper (envOfC qual scope s.heap.objs.size f cdv)) →
      ∃ t, PSs (cxOf CX0 P w K mg base N qual scope f cdv A outer s H E).nox body t ∧
        ∀ m ds, pre m ds → WS R K E (fun C m' => False ∧ m' = m) (.v (.ref (at_ m)) :: (ds.map Sl.d ++ List.replicate n Sl.u)) m t (fun _ m' => post m ds (.d .none) m') (fun r m' => post m ds r m') (fun _ _ => False) (fun _ _ => False)) : FnOk P w K mg base CX0 (k + 1) f fd ps (spM R K at_ pre post fun _ _ _ => False) :=
  okD F S (fun vs H Q E ⟨m, us, ds, F, B, e, hd, _, _, hp, _⟩ => by rw [e, List.length_cons, dqa_len hd, len m ds hp]) fun cdv A outer s H vs Q E hr h => by
    obtain ⟨t, h1, h2⟩ := hb cdv A outer s H E hr
    refine ⟨t, h1, run_M h n ?_ fun m ds hp => h2 m ds hp⟩
    obtain ⟨m, us, ds, F, B, rfl, hd, _, _, hp, _⟩ := h
    have := len m ds hp
    rw [List.length_cons, dqa_len hd, this, hn]
    omega
section
variable {K : PySem.W.Frag} {C P : Addr} {q : Str} {E : XK} {XP : Addr → SM → Prop} {ρ : List Sl} {m : SM} {k : Rk → SM → Prop} {tu tv : TE} {tl th : TO} {nx bk ct : List Sl → SM → Prop} {rt : Rk → SM → Prop} {i : Nat}
/-- a slice of the changes -/
theorem we_slC (hC : Cls K C) (hN : NoAttr K C "_changes") (hi : ρ[i]? = some (.v (.ref m.s))) (h : WO (stoR K C P q) K E XP ρ m tl fun lo m1 => m1 = m ∧ WO (stoR K C P q) K E XP ρ m th fun hi' m2 => m2 = m ∧ k (.o (cutD m.chs lo hi')) m) : WE (stoR K C P q) K E XP ρ m (tSl (rSlL K) (tFld K (tVar i) "_changes") tl th) k := by
  unfold WO at h
  unfold WE
  intro F0 H0 B0 F H B σ D Q qq
  obtain ⟨w, h1, h2⟩ := D.s i _ hi
  cases (show w = some (.ref m.s) from h2)
  obtain ⟨dx, h3⟩ := D.r.1
  refine ⟨_, h1, m.s, C, dx, _, _, rfl, h3, hC, hN, rfl, h D _ fun lo m1 F1 H1 B1 ⟨em, h'⟩ D1 q1 => ?_⟩
  subst em
  refine h' D1 _ fun hi' m2 F2 H2 B2 ⟨em, hk⟩ D2 q2 => ?_
  subst em
  obtain ⟨us, h4, h5⟩ := D2.r.2.2.1
  exact ⟨m2.c, us, rfl, sql h4, fun p hp => newL D2 hp (cutD_all h5 lo hi') hk fun v c m' F' H' B' k3 D3 q3 r3 => qq v c m' F' H' B' k3 D3 ((q1.trans q2).trans q3) (r3.base fun x hx => q2.e x (q1.e x hx))⟩
/-- the oldest changes are deleted -/
theorem ws_delC (hC : Cls K C) (hN : NoAttr K C "_changes") (hi : ρ[i]? = some (.v (.ref m.s))) (h : WE (stoR K C P q) K E XP ρ m tu fun r m1 => m1 = m ∧ ∃ c : Int, r = .d (.int c) ∧ 0 ≤ c ∧ c ≤ m.chs.length ∧ nx ρ { m with chs := m.chs.drop c.toNat }) : WS (stoR K C P q) K E XP ρ m (sDelSl (tFld K (tVar i) "_changes") tu) nx rt bk ct := by
  unfold WE at h
  unfold WS
  intro F0 H0 B0 F H B σ D d n r b c
  obtain ⟨w, h1, h2⟩ := d.s i _ hi
  cases (show w = some (.ref m.s) from h2)
  obtain ⟨dx, h3⟩ := d.r.1
  refine ⟨_, h1, m.s, C, dx, _, _, rfl, h3, hC, hN, rfl, h d _ fun v rr m1 F1 H1 B1 ⟨em, c, e, h0, hc, hk⟩ D1 q1 r1 => ?_⟩
  subst em e
  cases dq_int r1
  obtain ⟨us, h4, h5⟩ := D1.r.2.2.1
  have hs : F1 m1.c := D1.r.2.2.2.2.2.2.1
  have hB := (D1.r.2.2.2.2.2.2.2.2 _ hs).2
  exact ⟨m1.c, us, c, rfl, rfl, h4, h0, by rw [dqa_len h5]; exact hc, n hk (D1.step (.putF D1.st.s hs hB) (rel_chs D1.r (dqa_drop _ h5))) q1.b⟩
theorem rel_old {F : AP} {H B : Hp} {dx : Addr} {r : Int} (h : (stoR K C P q).rel m F H B) (_ : H m.s = some (.ins C dx (fSto m))) : (stoR K C P q).rel { m with old := r } F (upd H m.s (.ins C dx (fSto { m with old := r }))) B := by
  obtain ⟨⟨dx', h1⟩, ⟨kvs, t1, t2⟩, ⟨us, c1, c2⟩, h4, f1, f2, f3, f4, hd⟩ := h
  obtain ⟨ps, hP⟩ : ∃ ps, H P = some (.tbl ps) := by obtain ⟨ps, a, _⟩ := h4; exact ⟨ps, a⟩
  refine ⟨⟨dx, upd_same⟩, ⟨kvs, ?_, t2⟩, ⟨us, ?_, c2⟩, tabF_upd h4 (fun z => ?_) (fun c hc z => ?_), f1, f2, f3, f4, dom_upd hd⟩
  · show (upd H m.s _) m.t = _
    rw [upd_ne (ne_of t1 h1 (fun z => nomatch z))]; exact t1
  · show (upd H m.s _) m.c = _
    rw [upd_ne (ne_of c1 h1 (fun z => nomatch z))]; exact c1
  · rw [← z, h1] at hP; cases hP
  · rw [← z, h1] at hc; unfold LamX.CodeO at hc; cases hc
end
/-! # self.oldest = value -/
theorem psK_fld {K : PySem.W.Frag} {X : Cx} {o value : Expr} {f : Str} {pos pos' : Pos} {ta tv : TE} (h : X.K = K) (ha : PE X o ta) (hv : PE X value tv) (hs : swapsWith value (some (o.Attribute f pos')) pos.line X.env = pure false) : PS X (Stmt.Assign [o.Attribute f pos'] value pos) (sFld K ta tv f) := by subst h; exact ps_fld ha hv hs
section
variable {K : PySem.W.Frag} {C P : Addr} {q : Str} {E : XK} {XP : Addr → SM → Prop} {ρ : List Sl} {m : SM} {k : Rk → SM → Prop} {tv : TE} {nx bk ct : List Sl → SM → Prop} {rt : Rk → SM → Prop} {i : Nat}
theorem ws_oldset (hC : Cls K C) (hN : NoAttr K C "oldest") (hi : ρ[i]? = some (.v (.ref m.s))) (h : WE (stoR K C P q) K E XP ρ m tv fun r m1 => m1 = m ∧ ∃ j : Int, r = .d (.int j) ∧ nx ρ { m with old := j }) : WS (stoR K C P q) K E XP ρ m (sFld K (tVar i) tv "oldest") nx rt bk ct := by
  unfold WE at h
  unfold WS
  intro F0 H0 B0 F H B σ D d n r b c
  refine h d _ fun v rr m1 F1 H1 B1 ⟨em, j, e, hk⟩ D1 q1 r1 => ?_
  subst em e
  cases dq_int r1
  obtain ⟨w, h1, h2⟩ := D1.s i _ hi
  cases (show w = some (.ref m1.s) from h2)
  obtain ⟨dx, h3⟩ := D1.r.1
  refine ⟨_, h1, m1.s, C, dx, _, rfl, h3, hC, hN, by show 4 < 1000; decide, ?_⟩
  have hs : F1 m1.s := D1.r.2.2.2.2.1
  have hB := (D1.r.2.2.2.2.2.2.2.2 _ hs).2
  exact n hk (D1.step (.putF D1.st.s hs hB) (rel_old D1.r h3)) q1.b
end
/-! # a comprehension over a list that is lent -/
section
variable {M : Type} {R : MR M} {K : PySem.W.Frag} {E : XK} {XP : Addr → M → Prop} {ρ : List Sl} {m : M} {k : Rk → M → Prop} {ta tb tc te : TE} {tr : TA}
theorem we_lcl {tl : TE} {g : TG} {tt : TT} {vs : List Nat} (hsl : Wipes g vs) (h : WE R K E XP ρ m tl fun r m1 => ∃ xs, r = .l xs ∧ ∃ (I : Nat → List PyData → Prop), I 0 [] ∧
    (∀ i x ys, xs[i]? = some x → I i ys → WG R K E XP (wipeS ρ vs) m1 g x fun ρ1 => WT R K E XP ρ1 m1 tt fun b m2 => m2 = m1 ∧
      (b = true → WA R K E XP ρ1 m1 (tCons te tNil) fun rs m3 => m3 = m1 ∧ ∃ y, DLo rs = some [y] ∧ ys.length < 90000 ∧ I (i + 1) (ys ++ [y])) ∧ (b = false → I (i + 1) ys)) ∧
    ∀ ys, I xs.length ys → k (.o ys) m1) : WE R K E XP ρ m (tLc (iList K tl) g tt te vs) k := by with_unfolding_all exact (fun {F0 H0 B0 F H B σ} D Q q =>
  h D _ fun vv r m1 F1 H1 B1 ⟨xs, er, I, i0, step, fin⟩ D1 q1 r1 => by
    subst er
    obtain ⟨pp, ws, rfl, g1, g3, g5⟩ := r1
    refine ⟨pp, rfl, ⟨ws, sql g1⟩, fun A hA => ?_⟩
    have hn : xs.length = ws.length := dqa_len g5 |>.symm
    have hA0 : H0 A = none := Classical.byContradiction fun z => D1.st.e A z hA
    have hAn : ∀ (i : Nat) (xs : List PyData), ρ[i]? = some (.o xs) → σ[i]? ≠ some (some (.ref A)) := fun i xs h1 h2 => D1.own i xs A h1 h2 hA
    refine lc_it (walk_list (xs := ws)) (fun i G' => ∃ F' B' us ys, I i ys ∧ DS R K E XP F0 H0 B0 F' G' B' σ ρ m1 ∧ Stq F1 H1 B1 F' G' B' ∧ G' A = some (.lst us) ∧ B' A = none ∧ ¬ F' A ∧ DqAll K B' us ys)
      ⟨F1, B1, [], [], i0, D1.newO hA, .newO D1.st.s hA, upd_same, b_none D1.st.s hA, D1.nF hA, .nil⟩ (fun i G' _ ⟨F', B', _, _, _, D', q', _⟩ => sql (q'.k _ _ g1 g3)) ?_ ?_
    · rintro i x G' G2 hi ⟨F', B', us, ys, hI, D', q', eA, bA, fA, hd⟩ hy
      obtain ⟨rfl, dd, hx, hdx⟩ : G2 = G' ∧ ∃ d, xs[i]? = some d ∧ Dq K B1 x d := ⟨hy.1, by obtain ⟨d, h1, h2⟩ := dqa_atV g5 hy.2; exact ⟨d, h1, h2⟩⟩
      have Dw := D'.wipe vs
      refine hsl _ _ _ _ _ (step i dd ys hx hI Dw (dq_same q'.b _ hdx) (fun σ2 H2 => H2 = G2 → ∃ ρ2, (WT R K E XP ρ2 m1 tt fun b m2 => m2 = m1 ∧ (b = true → WA R K E XP ρ2 m1 (tCons te tNil) fun rs m3 => m3 = m1 ∧ ∃ y, DLo rs = some [y] ∧ ys.length < 90000 ∧ I (i + 1) (ys ++ [y])) ∧ (b = false → I (i + 1) ys)) ∧ DS R K E XP F0 H0 B0 F' G2 B' σ2 ρ2 m1) fun σ2 ρ2 hT D2 _ => ⟨ρ2, hT, D2⟩) fun σ2 hq2 w2 => ⟨w2.trans (wipe_idem σ vs), ?_⟩
      obtain ⟨ρ2, hT, D2⟩ := hq2 rfl
      refine hT D2 _ fun b m2 F3 H3 B3 ⟨e2, hb1, hb2⟩ D3 q3 => ?_
      subst e2
      have eA3 := q3.k _ _ eA fA
      have hAne : G2 A ≠ none := by rw [eA]; simp
      cases b with
      | false =>
        refine (if_neg Bool.false_ne_true).mpr ⟨F3, B3, us, ys, hb2 rfl, D'.step q3 D3.r, q'.trans q3, eA3, q3.f _ hAne bA, q3.n _ hAne fA, dqa_same q3.b _ hd⟩
      | true =>
        refine (if_pos rfl).mpr ?_
        have hfin := wa_data (k' := fun ds m3 => m3 = m2 ∧ ∃ y, ds = [y] ∧ ys.length < 90000 ∧ I (i + 1) (ys ++ [y])) (fun D Q q => hb1 rfl D Q fun vs rs m' F' H' B' ⟨e, y, e2, hl, hk⟩ => q vs rs m' F' H' B' ⟨_, e2, e, y, rfl, hl, hk⟩) D3 (fun vs H4 => match vs with
          | [y] => ∃ acc, H4 A = some (.lst acc) ∧ acc.length < sizeLine ∧ ∃ F' B' us ys, I (i + 1) ys ∧ DS R K E XP F0 H0 B0 F' (upd H4 A (.lst (acc ++ [y]))) B' σ ρ m2 ∧ Stq F1 H1 B1 F' (upd H4 A (.lst (acc ++ [y]))) B' ∧ (upd H4 A (.lst (acc ++ [y]))) A = some (.lst us) ∧ B' A = none ∧ ¬ F' A ∧ DqAll K B' us ys
          | _ => False) (fun ws ds m4 F4 H4 B4 ⟨e, y, e2, hl, hk⟩ D4 q4 hd4 => by
          subst e e2
          obtain ⟨z, rfl⟩ : ∃ z, ws = [z] := by
            cases hd4 with
            | cons _ h => cases h; exact ⟨_, rfl⟩
          have q34 := q3.trans q4
          have eA4 := q34.k _ _ eA fA
          have bA4 := q34.f _ hAne bA
          have fA4 := q34.n _ hAne fA
          have hus := dqa_len hd
          have q5 := q'.trans q34
          exact ⟨us, eA4, szl (by omega), F4, B4, us ++ [z], ys ++ [y], hk, (D'.step q34 D4.r).putN bA4 fA4 hA0 hAn, q5.put hA bA4, upd_same, bA4, fA4, dqa_app (dqa_same q34.b _ hd) hd4⟩)
        exact hfin
    · rintro G' ⟨F', B', us, ys, hI, D', q', eA, bA, fA, hd⟩
      rw [← hn] at hI
      exact q _ _ m1 F' G' B' (fin ys hI) D' (q1.trans q') ⟨A, us, rfl, eA, bA, fA, Classical.byContradiction fun z => q1.e A z hA, hd⟩)
theorem we_lcFl {tl : TE} {g : TG} {tt : TT} {vs : List Nat} {ρ0 : List Sl} (hsl : Wipes g vs) (e0 : wipeS ρ vs = ρ0) (h : WE R K E XP ρ m tl fun r m1 => ∃ xs, r = .l xs ∧ ∃ (f : PyData → PyData) (t : PyData → Bool), xs.length ≤ 90000 ∧
    (∀ x ∈ xs, WG R K E XP ρ0 m1 g x fun ρ1 => WT R K E XP ρ1 m1 tt fun b m2 => m2 = m1 ∧ b = t x ∧
      (b = true → WA R K E XP ρ1 m1 (tCons te tNil) fun rs m3 => m3 = m1 ∧ DLo rs = some [f x])) ∧
    k (.o ((xs.filter t).map f)) m1) : WE R K E XP ρ m (tLc (iList K tl) g tt te vs) k :=
  we_lcl hsl <| WE.mono h fun r m1 ⟨xs, er, f, t, hl, step, hk⟩ => ⟨xs, er, fun i ys => ys = ((xs.take i).filter t).map f, rfl, fun i x ys hx (hI : ys = ((xs.take i).filter t).map f) => by
    have hm := List.mem_of_getElem? hx
    have hi := (List.getElem?_eq_some_iff.mp hx).1
    have et := take_succ_app hx
    rw [e0]
    refine WG.mono (step x hm) fun ρ1 hk2 => WT.mono hk2 fun b m2 ⟨z1, z2, z3⟩ => ⟨z1, fun hb => WA.mono (z3 hb) fun rs m3 ⟨y1, y2⟩ => ⟨y1, f x, y2, ?_, ?_⟩, fun hb => ?_⟩
    · rw [hI, List.length_map]
      have := List.length_filter_le t (xs.take i)
      rw [List.length_take] at this
      omega
    · show ys ++ [f x] = ((xs.take (i + 1)).filter t).map f
      rw [et, List.filter_append, List.map_append, hI, List.filter_cons, ← z2, hb]; rfl
    · show ys = ((xs.take (i + 1)).filter t).map f
      rw [et, List.filter_append, List.map_append, hI, List.filter_cons, ← z2, hb]; simp, fun ys (hI : ys = ((xs.take xs.length).filter t).map f) => by
    have hI' : ys = ((xs.take xs.length).filter t).map f := hI
    rw [List.take_length] at hI'
    rw [hI']; exact hk⟩
end
end My
local macro_rules | `(tactic| walk_at "go") => `(tactic| try dsimp only [L2.gName, L2.tSeq, L2.tAsg, L2.tNext, L2.tDrop])
local macro_rules | `(tactic| walk_at "zE") => `(tactic| first
  | ((with_reducible refine' My.we_var ?e ?_); case e => exact rfl)
  | ((with_reducible refine' My.we_fldI ?c ?n ?i ?l ?_); (case c => assumption); (case n => assumption); (case i => exact rfl); case l => exact rfl)
  | ((with_reducible refine' My.we_fldV ?c ?n ?i ?l ?_); (case c => assumption); (case n => assumption); (case i => exact rfl); case l => exact rfl)
  | with_reducible refine My.we_get1 ?_
  | ((with_reducible refine' My.we_ent ?e ?_); case e => exact rfl)
  | with_reducible refine My.we_din ?_
  | with_reducible refine My.we_sbk ?_
  | with_reducible refine My.we_tupo ?_
  | with_reducible refine My.we_lsto ?_
  | with_reducible refine My.we_int ?_
  | with_reducible refine My.we_op ?_
  | with_reducible refine My.we_cb ?_
  | with_reducible refine My.we_str ?_
  | with_reducible refine My.we_bl ?_
  | with_reducible refine My.we_non ?_
  | with_reducible refine My.we_ty ?_
  | ((with_reducible refine' My.we_varO ?e ?_); case e => exact rfl)
  | ((with_reducible refine' My.we_varL ?e ?_); case e => exact rfl)
  | ((with_reducible refine' My.we_varV ?e ?_); case e => exact rfl)
  | with_reducible refine My.we_call1 ?_
  | with_reducible refine My.we_call2 ?_
  | with_reducible refine My.we_call3 ?_
  | with_reducible refine My.we_callQ1 ?_
  | with_reducible refine My.we_callQ2 ?_
  | with_reducible refine My.we_callQ3 ?_
  | with_reducible refine My.we_callL1o ?_
  | with_reducible refine My.we_callL2o ?_
  | with_reducible refine My.we_callL3o ?_
  | with_reducible refine My.we_chain ?_
  | with_reducible refine My.we_andV ?_
  | with_reducible refine My.we_orV ?_
  | with_reducible refine My.we_notV ?_
  | with_reducible refine My.we_if ?_
  | with_reducible refine My.we_sl ?_
  | with_reducible refine My.we_joined ?_
  | with_reducible refine My.we_join ?_
  | with_reducible refine My.we_neg ?_)
local macro_rules | `(tactic| walk_at "zS") => `(tactic| first
  | with_reducible refine My.ws_seq ?_
  | ((with_reducible refine' My.ws_revaug ?c ?n ?i ?_); (case c => assumption); (case n => assumption); case i => exact rfl)
  | with_reducible refine My.ws_dput ?_
  | with_reducible refine My.ws_ddel ?_
  | ((with_reducible refine' My.ws_chapp ?c ?n ?i ?_); (case c => assumption); (case n => assumption); case i => exact rfl)
  | with_reducible refine My.ws_next ?_
  | ((with_reducible refine' My.ws_norm ?e ?_); case e => (dsimp only [List.set, My.slOf] <;> exact rfl))
  | with_reducible refine My.ws_asg ?_
  | ((with_reducible refine' My.ws_retO ?e ?_); case e => exact rfl)
  | with_reducible refine My.ws_ret ?_
  | with_reducible refine My.ws_if ?_
  | with_reducible refine My.ws_retN ?_
  | with_reducible refine My.ws_leave ?_
  | with_reducible refine My.ws_asgU ?_
  | with_reducible refine My.ws_asgG ?_
  | with_reducible refine My.ws_brk ?_
  | with_reducible refine My.ws_cont ?_
  | ((with_reducible refine' My.ws_append ?e ?l ?_); (case e => exact rfl); case l => walk_at "pp")
  | ((with_reducible refine' My.ws_extend ?e ?_); case e => exact rfl)
  | with_reducible refine My.ws_drop ?_)
local macro_rules | `(tactic| walk_at "zA") => `(tactic| first
  | with_reducible refine My.wa_cons ?_
  | with_reducible refine My.wa_nil ?_)
local macro_rules | `(tactic| walk_at "zO") => `(tactic| first
  | with_reducible refine My.opP_add ?_
  | with_reducible refine My.opP_sub ?_
  | with_reducible refine My.opP_lt ?_
  | with_reducible refine My.opP_le ?_
  | with_reducible refine My.opP_gt ?_
  | with_reducible refine My.opP_ge ?_
  | ((with_reducible refine' My.opP_mod ?e ?_); case e => (first | decide | omega))
  | ((with_reducible refine' My.opP_fdiv ?e ?_); case e => exact ⟨by first | decide | omega, by first | decide | omega⟩)
  | ((with_reducible refine' My.opP_mul ?e ?_); case e => first | exact .inl ⟨by decide, by decide⟩ | exact .inr ⟨by decide, by decide⟩ | exact .inl ⟨by omega, by omega⟩ | exact .inr ⟨by omega, by omega⟩)
  | ((with_reducible refine' My.opP_catT ?e ?_); case e => walk_at "ct")
  | ((with_reducible refine' My.opP_repS ?e ?_); case e => exact ⟨by decide, by decide, by decide, by decide⟩)
  | ((with_reducible refine' My.opP_pow ?e ?_); case e => exact ⟨by decide, by decide, by decide⟩)
  | with_reducible refine My.opP_eqI ?_
  | with_reducible refine My.opP_neI ?_
  | with_reducible refine My.opP_eqS ?_
  | with_reducible refine My.opP_neS ?_
  | with_reducible refine My.opP_isB ?_
  | with_reducible refine My.opP_notB ?_
  | with_reducible refine My.opP_eqB ?_
  | with_reducible refine My.opP_neB ?_
  | ((with_reducible refine' My.opP_isN ?e ?_); case e => exact rfl)
  | ((with_reducible refine' My.opP_notN ?e ?_); case e => exact rfl)
  | ((with_reducible refine' My.opP_ixT ?e ?_); case e => (first | exact rfl | assumption))
  | ((with_reducible refine' My.opP_ixL ?a ?e ?_); (case a => exact rfl); case e => (first | exact rfl | assumption))
  | ((with_reducible refine' My.opP_eqD ?a ?b ?c ?d ?_); (case a => exact rfl); (case b => exact rfl); (case c => walk_at "sh"); case d => walk_at "sh")
  | ((with_reducible refine' My.opP_neD ?a ?b ?c ?d ?_); (case a => exact rfl); (case b => exact rfl); (case c => walk_at "sh"); case d => walk_at "sh")
  | ((with_reducible refine' My.opP_inD ?a ?b ?c ?d ?_); (case a => exact rfl); (case b => exact rfl); (case c => walk_at "sh"); case d => walk_at "sh")
  | ((with_reducible refine' My.opP_notInD ?a ?b ?c ?d ?_); (case a => exact rfl); (case b => exact rfl); (case c => walk_at "sh"); case d => walk_at "sh")
  | ((with_reducible refine' My.opP_inT ?a ?b ?c ?d ?_); (case a => exact rfl); (case b => exact rfl); (case c => walk_at "sh"); case d => walk_at "sh")
  | ((with_reducible refine' My.opP_notInT ?a ?b ?c ?d ?_); (case a => exact rfl); (case b => exact rfl); (case c => walk_at "sh"); case d => walk_at "sh")
  | with_reducible refine My.opP_ltS ?_
  | with_reducible refine My.opP_gtS ?_
  | with_reducible refine My.opP_leS ?_
  | with_reducible refine My.opP_geS ?_
  | with_reducible refine My.opP_inSign ?_
  | with_reducible refine My.opP_notInS1 ?_)
local macro_rules | `(tactic| walk_at "zC") => `(tactic| first
  | ((with_reducible refine' My.cbP_isB ?e ?_); case e => exact rfl)
  | ((with_reducible refine' My.cbP_isI ?e ?_); case e => exact rfl)
  | ((with_reducible refine' My.cbP_isS ?e ?_); case e => exact rfl)
  | ((with_reducible refine' My.cbP_isT ?e ?_); case e => exact rfl)
  | ((with_reducible refine' My.cbP_isL ?e ?_); case e => exact rfl)
  | ((with_reducible refine' My.cbP_lenL ?e ?_); case e => exact rfl)
  | with_reducible refine My.cbP_lenT ?_
  | with_reducible refine My.cbP_int ?_
  | with_reducible refine My.cbP_intB ?_
  | with_reducible refine My.cbP_ord ?_
  | with_reducible refine My.cbP_abs ?_
  | ((with_reducible refine' My.cbP_lenS ?e ?_); case e => walk_at "ln")
  | ((with_reducible refine' My.cbP_listL ?e ?_); case e => exact rfl)
  | with_reducible refine My.cbP_listT ?_
  | ((with_reducible refine' My.cbP_tupL ?e ?_); case e => exact rfl)
  | with_reducible refine My.cbP_tupT ?_)
local macro_rules | `(tactic| walk_at "zT") => `(tactic| first
  | with_reducible refine My.wt_test ?_
  | with_reducible refine My.wt_b ?_
  | with_reducible refine My.wt_not ?_
  | with_reducible refine My.wt_and ?_
  | with_reducible refine My.wt_or ?_
  | with_reducible refine My.wt_truR ?_
  | with_reducible refine My.wt_yes ?_)
local macro_rules | `(tactic| walk_at "zG") => `(tactic| first
  | with_reducible refine My.wg_name ?_
  | ((with_reducible refine' My.wg_tup ?e ?_); case e => exact rfl))
local macro_rules | `(tactic| walk_at "zH") => `(tactic| first
  | with_reducible refine My.wgs_cons ?_
  | with_reducible refine My.wgs_nil ?_)
local macro_rules | `(tactic| walk_at "zL") => `(tactic| first
  | ((with_reducible refine' My.slP_L ?e ?_); case e => exact rfl)
  | ((with_reducible refine' My.slP_S ?e ?_); case e => walk_at "ln")
  | with_reducible refine My.slP_T ?_)
local macro_rules | `(tactic| walk_at "zP") => `(tactic| first
  | with_reducible refine My.wo_none ?_
  | with_reducible refine My.wo_part ?_)
local macro_rules | `(tactic| walk_at "zI") => `(tactic| first
  | with_reducible refine My.wi_str ?_
  | with_reducible refine My.wi_list ?_
  | with_reducible refine My.wi_tup ?_
  | with_reducible refine My.wi_rngLen ?_
  | with_reducible refine My.wi_rng1 ?_
  | with_reducible refine My.wi_rng2 ?_)
local macro_rules | `(tactic| walk_at "zJ") => `(tactic| first
  | with_reducible refine My.wj_cons ?_
  | with_reducible refine My.wj_nil ?_)
local macro_rules | `(tactic| walk_at "p1") => `(tactic| first
  | ((with_reducible refine My.isWE ?_); walk_at "zE")
  | ((with_reducible refine My.isWS ?_); walk_at "zS")
  | ((with_reducible refine My.isWA ?_); walk_at "zA")
  | ((with_reducible refine My.isOp ?_); walk_at "zO")
  | ((with_reducible refine My.isCb ?_); walk_at "zC")
  | ((with_reducible refine My.isWT ?_); walk_at "zT")
  | ((with_reducible refine My.isWG ?_); walk_at "zG")
  | ((with_reducible refine My.isWGs ?_); walk_at "zH")
  | ((with_reducible refine My.isSlp ?_); walk_at "zL")
  | ((with_reducible refine My.isWO ?_); walk_at "zP")
  | ((with_reducible refine My.isWI ?_); walk_at "zI")
  | ((with_reducible refine My.isWJ ?_); walk_at "zJ"))
local macro_rules | `(tactic| walk_at "p2") => `(tactic| first | ((with_reducible refine' (Exists.intro _ (And.intro ?e ?_))); case e => exact rfl) | ((with_reducible refine' (Exists.intro _ (Exists.intro _ (And.intro ?e ?_)))); case e => exact rfl) | ((with_reducible refine' (Exists.intro _ (Exists.intro _ (Exists.intro _ (And.intro ?e ?_))))); case e => exact rfl) | (walk_at "pf") | ((with_reducible refine' (And.intro ?p ?_)); case p => walk_at "pp"))
local macro_rules | `(tactic| walk_at "px") => `(tactic| repeat (first | (walk_at "p1") | (walk_at "p2")))
local macro_rules | `(tactic| walk_at "pw") => `(tactic| ((walk_at "px"); try ((walk_at "pi") <;> (intro hh; first | (exfalso; omega) | walk_at "pw"))))
local macro_rules | `(tactic| walk_at "pp") => `(tactic| first | assumption | exact True.intro | exact rfl | exact Nat.le_of_ble_eq_true rfl | exact ⟨_, rfl⟩ | exact ⟨_, _, rfl, rfl⟩ | exact ⟨_, rfl, by assumption⟩ | exact ⟨by assumption, by assumption⟩ | exact ⟨by assumption, _, rfl⟩ | exact ⟨by assumption, by assumption, by assumption⟩ | omega | (walk_at "ln") | (walk_at "sh"))
local macro_rules | `(tactic| walk_at "ct") => `(tactic| first | exact Nat.le_of_ble_eq_true rfl | (simp only [List.length_append, List.length_cons, List.length_nil, List.length_map]; omega))
local macro_rules | `(tactic| walk_at "sh") => `(tactic| first | assumption | exact My.okx_sh (n := 8) (by assumption) | decide +kernel)
local macro_rules | `(tactic| walk_at "ln") => `(tactic| first | assumption | exact My.sz (My.okx_str (n := 8) (by assumption)).1 | exact My.sz (by assumption) | exact My.sz (by omega) | decide +kernel)
local macro_rules | `(tactic| walk_at "pr") => `(tactic| first | exact My.r1d rfl | exact My.r2d rfl | exact My.r3d rfl)
local macro_rules | `(tactic| walk_at "pi") => `(tactic| first | refine My.ifp ?_ ?_ | refine My.ifq ?_ ?_ | refine My.ifnp ?_ ?_ | refine My.ifnq ?_ ?_ | refine My.ifnb ?_ ?_ | refine My.ifnbq ?_ ?_ | refine My.ifb ?_ ?_ | refine My.ifbq ?_ ?_)
local macro_rules | `(tactic| walk_at "pf") => `(tactic| ((with_reducible refine ⟨fun hb => ?pl, fun hb => ?pr⟩); first | (case pr => (cases hb; done)) | (case pl => (cases hb; done))))
local macro_rules | `(tactic| walk_at "pn") => `(tactic| ((first | with_reducible refine' My.ws_eq ?e ?_ | with_reducible refine' My.wg_eq ?e ?_ | with_reducible refine' My.wt_eq ?e ?_); case e => (dsimp only [List.map, List.replicate, List.set, My.slOf, My.slA, My.asL, My.wipeS, List.cons_append, List.nil_append] <;> exact rfl)))
local macro_rules | `(tactic| walk_at "ww") => `(tactic| repeat (first | exact My.wipes_name (by decide) | exact My.wipes_nil | refine My.wipes_tup ?_ | refine My.wipes_cons ?_ ?_))
local macro_rules | `(tactic| walk_at "wk") => `(tactic| repeat (first | exact True.intro | refine ⟨.inl rfl, ?_⟩ | refine ⟨.inr rfl, ?_⟩))
namespace My
open PySem PySem.Spec PyProof.Rows L2
def topS (i : Nat) : Stmt := PySem.Challenge.pw_majordomo_k78_a_life_in_the_store.main.body.getD i (.Pass ⟨0, 0, 0, 0⟩)
abbrev s_ended : Stmt := (topS 8)
theorem sc_ended : FnScope ["value"] ["value"] (defScope s_ended) := ⟨rfl, rfl, rfl, by decide +kernel, rfl, by decide +kernel, by decide +kernel⟩
abbrev s_started : Stmt := (topS 9)
theorem sc_started : FnScope ["value"] ["value"] (defScope s_started) := ⟨rfl, rfl, rfl, by decide +kernel, rfl, by decide +kernel, by decide +kernel⟩
abbrev s__next_life : Stmt := (topS 11)
theorem sc__next_life : FnScope ["node_entry"] ["node_entry"] (defScope s__next_life) := ⟨rfl, rfl, rfl, by decide +kernel, rfl, by decide +kernel, by decide +kernel⟩
abbrev s_enroll_transaction : Stmt := (topS 12)
theorem sc_enroll_transaction : FnScope ["name", "size", "zone", "node_entry", "beat_entry", "life", "used", "revisions", "_", "conditions", "puts"] ["name", "size", "zone", "node_entry", "beat_entry"] (defScope s_enroll_transaction) := ⟨rfl, rfl, rfl, by decide +kernel, rfl, by decide +kernel, by decide +kernel⟩
abbrev s_beat_transaction : Stmt := (topS 13)
theorem sc_beat_transaction : FnScope ["name", "beat_rev", "life", "count"] ["name", "beat_rev", "life", "count"] (defScope s_beat_transaction) := ⟨rfl, rfl, rfl, by decide +kernel, rfl, by decide +kernel, by decide +kernel⟩
abbrev s_start_transaction : Stmt := (topS 14)
theorem sc_start_transaction : FnScope ["slot", "task_entry", "_", "revision", "value"] ["slot", "task_entry"] (defScope s_start_transaction) := ⟨rfl, rfl, rfl, by decide +kernel, rfl, by decide +kernel, by decide +kernel⟩
abbrev s_end_transaction : Stmt := (topS 15)
theorem sc_end_transaction : FnScope ["slot", "task_entry", "node", "node_entry", "_", "task_revision", "task_value", "node_revision", "node_value", "size", "used", "life", "lost", "zone", "conditions", "puts"] ["slot", "task_entry", "node", "node_entry"] (defScope s_end_transaction) := ⟨rfl, rfl, rfl, by decide +kernel, rfl, by decide +kernel, by decide +kernel⟩
abbrev s_has_plain_characters : Stmt := (topS 21)
theorem sc_has_plain_characters : FnScope ["text", "character", "code"] ["text"] (defScope s_has_plain_characters) := ⟨rfl, rfl, rfl, by decide +kernel, rfl, by decide +kernel, by decide +kernel⟩
abbrev s_is_integer_within : Stmt := (topS 22)
theorem sc_is_integer_within : FnScope ["number", "low", "high"] ["number", "low", "high"] (defScope s_is_integer_within) := ⟨rfl, rfl, rfl, by decide +kernel, rfl, by decide +kernel, by decide +kernel⟩
abbrev s_is_plain_name : Stmt := (topS 32)
theorem sc_is_plain_name : FnScope ["name", "character"] ["name"] (defScope s_is_plain_name) := ⟨rfl, rfl, rfl, by decide +kernel, rfl, by decide +kernel, by decide +kernel⟩
abbrev s_is_slot_name : Stmt := (topS 33)
theorem sc_is_slot_name : FnScope ["name"] ["name"] (defScope s_is_slot_name) := ⟨rfl, rfl, rfl, by decide +kernel, rfl, by decide +kernel, by decide +kernel⟩
abbrev s_is_text : Stmt := (topS 34)
theorem sc_is_text : FnScope ["text"] ["text"] (defScope s_is_text) := ⟨rfl, rfl, rfl, by decide +kernel, rfl, by decide +kernel, by decide +kernel⟩
abbrev s_is_count : Stmt := (topS 35)
theorem sc_is_count : FnScope ["number"] ["number"] (defScope s_is_count) := ⟨rfl, rfl, rfl, by decide +kernel, rfl, by decide +kernel, by decide +kernel⟩
abbrev s_is_zone : Stmt := (topS 36)
theorem sc_is_zone : FnScope ["zone"] ["zone"] (defScope s_is_zone) := ⟨rfl, rfl, rfl, by decide +kernel, rfl, by decide +kernel, by decide +kernel⟩
abbrev s_is_key : Stmt := (topS 37)
theorem sc_is_key : FnScope ["kind", "name"] ["kind", "name"] (defScope s_is_key) := ⟨rfl, rfl, rfl, by decide +kernel, rfl, by decide +kernel, by decide +kernel⟩
abbrev s__is_beat : Stmt := (topS 38)
theorem sc__is_beat : FnScope ["value"] ["value"] (defScope s__is_beat) := ⟨rfl, rfl, rfl, by decide +kernel, rfl, by decide +kernel, by decide +kernel⟩
abbrev s__is_drain : Stmt := (topS 39)
theorem sc__is_drain : FnScope ["value"] ["value"] (defScope s__is_drain) := ⟨rfl, rfl, rfl, by decide +kernel, rfl, by decide +kernel, by decide +kernel⟩
abbrev s__is_node : Stmt := (topS 40)
theorem sc__is_node : FnScope ["value", "size", "used", "life", "lost", "zone"] ["value"] (defScope s__is_node) := ⟨rfl, rfl, rfl, by decide +kernel, rfl, by decide +kernel, by decide +kernel⟩
abbrev s__is_note : Stmt := (topS 41)
theorem sc__is_note : FnScope ["value", "text", "owner_kind", "owner_name", "owner_born"] ["value"] (defScope s__is_note) := ⟨rfl, rfl, rfl, by decide +kernel, rfl, by decide +kernel, by decide +kernel⟩
abbrev s__is_rollout : Stmt := (topS 42)
theorem sc__is_rollout : FnScope ["value"] ["value"] (defScope s__is_rollout) := ⟨rfl, rfl, rfl, by decide +kernel, rfl, by decide +kernel, by decide +kernel⟩
abbrev s__are_open_numbers : Stmt := (topS 43)
theorem sc__are_open_numbers : FnScope ["numbers", "least", "number"] ["numbers"] (defScope s__are_open_numbers) := ⟨rfl, rfl, rfl, by decide +kernel, rfl, by decide +kernel, by decide +kernel⟩
abbrev s__is_service : Stmt := (topS 44)
theorem sc__is_service : FnScope ["value", "count", "text", "size", "gone", "zone"] ["value"] (defScope s__is_service) := ⟨rfl, rfl, rfl, by decide +kernel, rfl, by decide +kernel, by decide +kernel⟩
abbrev s__is_task : Stmt := (topS 45)
theorem sc__is_task : FnScope ["value", "service_born", "text", "size", "state", "stop", "node", "life", "zone"] ["value"] (defScope s__is_task) := ⟨rfl, rfl, rfl, by decide +kernel, rfl, by decide +kernel, by decide +kernel⟩
abbrev s_is_object : Stmt := (topS 47)
theorem sc_is_object : FnScope ["kind", "name", "value", "has_form"] ["kind", "name", "value"] (defScope s_is_object) := ⟨rfl, rfl, rfl, by decide +kernel, rfl, by decide +kernel, by decide +kernel⟩
abbrev s__is_tuple_of : Stmt := (topS 48)
theorem sc__is_tuple_of : FnScope ["value", "size"] ["value", "size"] (defScope s__is_tuple_of) := ⟨rfl, rfl, rfl, by decide +kernel, rfl, by decide +kernel, by decide +kernel⟩
abbrev s__is_condition : Stmt := (topS 49)
theorem sc__is_condition : FnScope ["condition"] ["condition"] (defScope s__is_condition) := ⟨rfl, rfl, rfl, by decide +kernel, rfl, by decide +kernel, by decide +kernel⟩
abbrev s__is_put : Stmt := (topS 50)
theorem sc__is_put : FnScope ["put"] ["put"] (defScope s__is_put) := ⟨rfl, rfl, rfl, by decide +kernel, rfl, by decide +kernel, by decide +kernel⟩
abbrev s__is_delete : Stmt := (topS 51)
theorem sc__is_delete : FnScope ["delete"] ["delete"] (defScope s__is_delete) := ⟨rfl, rfl, rfl, by decide +kernel, rfl, by decide +kernel, by decide +kernel⟩
abbrev s__are_distinct : Stmt := (topS 52)
theorem sc__are_distinct : FnScope ["keys", "seen", "key"] ["keys"] (defScope s__are_distinct) := ⟨rfl, rfl, rfl, by decide +kernel, rfl, by decide +kernel, by decide +kernel⟩
abbrev s_check_transaction : Stmt := (topS 53)
theorem sc_check_transaction : FnScope ["transaction", "part", "conditions", "puts", "deletes", "condition", "put", "delete"] ["transaction"] (defScope s_check_transaction) := ⟨rfl, rfl, rfl, by decide +kernel, rfl, by decide +kernel, by decide +kernel⟩
abbrev s__sorted_by_key : Stmt := (topS 55)
theorem sc__sorted_by_key : FnScope ["members"] ["members"] (defScope s__sorted_by_key) := ⟨rfl, rfl, rfl, by decide +kernel, rfl, by decide +kernel, by decide +kernel⟩
abbrev s_Store___init__ : Stmt := (inClass (topS 56) 0)
theorem sc_Store___init__ : FnScope ["self"] ["self"] (defScope s_Store___init__) := ⟨rfl, rfl, rfl, by decide +kernel, rfl, by decide +kernel, by decide +kernel⟩
abbrev s_Store_entry : Stmt := (inClass (topS 56) 1)
theorem sc_Store_entry : FnScope ["self", "kind", "name"] ["self", "kind", "name"] (defScope s_Store_entry) := ⟨rfl, rfl, rfl, by decide +kernel, rfl, by decide +kernel, by decide +kernel⟩
abbrev s_Store_entries : Stmt := (inClass (topS 56) 2)
theorem sc_Store_entries : FnScope ["self", "key"] ["self"] (defScope s_Store_entries) := ⟨rfl, rfl, rfl, by decide +kernel, rfl, by decide +kernel, by decide +kernel⟩
abbrev s_Store_apply : Stmt := (inClass (topS 56) 3)
theorem sc_Store_apply : FnScope ["self", "transaction", "conditions", "puts", "deletes", "holds", "kind", "name", "revision", "key"] ["self", "transaction"] (defScope s_Store_apply) := ⟨rfl, rfl, rfl, by decide +kernel, rfl, by decide +kernel, by decide +kernel⟩
abbrev s_Store__holds : Stmt := (inClass (topS 56) 4)
theorem sc_Store__holds : FnScope ["self", "kind", "name", "revision", "entry"] ["self", "kind", "name", "revision"] (defScope s_Store__holds) := ⟨rfl, rfl, rfl, by decide +kernel, rfl, by decide +kernel, by decide +kernel⟩
abbrev s_Store__change : Stmt := (inClass (topS 56) 5)
theorem sc_Store__change : FnScope ["self", "puts", "deletes", "kind", "name", "value", "entry", "born", "key"] ["self", "puts", "deletes"] (defScope s_Store__change) := ⟨rfl, rfl, rfl, by decide +kernel, rfl, by decide +kernel, by decide +kernel⟩
abbrev s__law_number : Stmt := (topS 58)
theorem sc__law_number : FnScope ["script", "k", "cell"] ["script", "k"] (defScope s__law_number) := ⟨rfl, rfl, rfl, by decide +kernel, rfl, by decide +kernel, by decide +kernel⟩
abbrev s__law_digits : Stmt := (topS 59)
theorem sc__law_digits : FnScope ["script", "k", "sizes", "number", "digits", "size"] ["script", "k", "sizes"] (defScope s__law_digits) := ⟨rfl, rfl, rfl, by decide +kernel, rfl, by decide +kernel, by decide +kernel⟩
abbrev s__law_fill : Stmt := (topS 60)
theorem sc__law_fill : FnScope ["script", "store", "k", "size", "stop"] ["script"] (defScope s__law_fill) := ⟨rfl, rfl, rfl, by decide +kernel, rfl, by decide +kernel, by decide +kernel⟩
abbrev s__law_bind : Stmt := (topS 61)
theorem sc__law_bind : FnScope ["store", "slot", "task", "node", "value", "place", "bound", "carried"] ["store", "slot"] (defScope s__law_bind) := ⟨rfl, rfl, rfl, by decide +kernel, rfl, by decide +kernel, by decide +kernel⟩
abbrev s__law_refused : Stmt := (topS 62)
theorem sc__law_refused : FnScope ["store", "transaction", "kept", "answer"] ["store", "transaction", "kept"] (defScope s__law_refused) := ⟨rfl, rfl, rfl, by decide +kernel, rfl, by decide +kernel, by decide +kernel⟩
abbrev s__law_enroll : Stmt := (topS 63)
theorem sc__law_enroll : FnScope ["store", "old", "size", "node", "beat", "kept", "life", "used"] ["store", "old", "size"] (defScope s__law_enroll) := ⟨rfl, rfl, rfl, by decide +kernel, rfl, by decide +kernel, by decide +kernel⟩
abbrev s__law_beat : Stmt := (topS 64)
theorem sc__law_beat : FnScope ["store", "rev", "number", "beat", "kept", "life"] ["store", "rev", "number"] (defScope s__law_beat) := ⟨rfl, rfl, rfl, by decide +kernel, rfl, by decide +kernel, by decide +kernel⟩
abbrev s__law_start : Stmt := (topS 65)
theorem sc__law_start : FnScope ["store", "slot", "entry", "now", "kept", "value"] ["store", "slot", "entry"] (defScope s__law_start) := ⟨rfl, rfl, rfl, by decide +kernel, rfl, by decide +kernel, by decide +kernel⟩
abbrev s__law_end : Stmt := (topS 66)
theorem sc__law_end : FnScope ["store", "slot", "entry", "node", "now", "place", "kept", "value", "freed", "ended_v"] ["store", "slot", "entry", "node"] (defScope s__law_end) := ⟨rfl, rfl, rfl, by decide +kernel, rfl, by decide +kernel, by decide +kernel⟩
abbrev s__law_good : Stmt := (topS 67)
theorem sc__law_good : FnScope ["store", "node", "used", "k", "value"] ["store"] (defScope s__law_good) := ⟨rfl, rfl, rfl, by decide +kernel, rfl, by decide +kernel, by decide +kernel⟩
abbrev s__law_deed : Stmt := (topS 68)
theorem sc__law_deed : FnScope ["store", "first", "digits", "number", "slot", "entry", "node", "beat", "old"] ["store", "first", "digits", "number"] (defScope s__law_deed) := ⟨rfl, rfl, rfl, by decide +kernel, rfl, by decide +kernel, by decide +kernel⟩
abbrev s_law : Stmt := (topS 69)
theorem sc_law : FnScope ["script", "store", "first", "life", "k", "digits", "node"] ["script"] (defScope s_law) := ⟨rfl, rfl, rfl, by decide +kernel, rfl, by decide +kernel, by decide +kernel⟩

structure TX (K : PySem.W.Frag) (mg : Str → Option Value) (w : World) where
  a_MajordomoError : Addr
  g_MajordomoError : mg "MajordomoError" = some (.ref a_MajordomoError)
  x_MajordomoError : PySem.W.excIn K a_MajordomoError [.type "ValueError", .type "Exception", .type "BaseException", .type "object"] "ValueError.__new__" = true
  k_MajordomoError : PySem.W.keepIn K (.ref a_MajordomoError) = true
  s_MajordomoError : PySem.W.subIn K (.ref a_MajordomoError) (.type "BaseException") = some true
  t_MajordomoError : PySem.W.typeIn K (.ref a_MajordomoError) = some (.type "type")
  a_StoreError : Addr
  g_StoreError : mg "StoreError" = some (.ref a_StoreError)
  x_StoreError : PySem.W.excIn K a_StoreError [.type "ValueError", .type "Exception", .type "BaseException", .type "object"] "ValueError.__new__" = true
  k_StoreError : PySem.W.keepIn K (.ref a_StoreError) = true
  s_StoreError : PySem.W.subIn K (.ref a_StoreError) (.type "BaseException") = some true
  t_StoreError : PySem.W.typeIn K (.ref a_StoreError) = some (.type "type")
  a_BadTransaction : Addr
  g_BadTransaction : mg "BadTransaction" = some (.ref a_BadTransaction)
  x_BadTransaction : PySem.W.excIn K a_BadTransaction [.type "ValueError", .type "Exception", .type "BaseException", .type "object"] "ValueError.__new__" = true
  k_BadTransaction : PySem.W.keepIn K (.ref a_BadTransaction) = true
  s_BadTransaction : PySem.W.subIn K (.ref a_BadTransaction) (.type "BaseException") = some true
  t_BadTransaction : PySem.W.typeIn K (.ref a_BadTransaction) = some (.type "type")
  a_Store : Addr
  a_ended : Addr
  d_ended : FuncData
  F_ended : Fun K "ended" "ended" s_ended a_ended d_ended
  b_ended : Binds K d_ended ["value"] []
  g_ended : mg "ended" = some (.ref a_ended)
  a_started : Addr
  d_started : FuncData
  F_started : Fun K "started" "started" s_started a_started d_started
  b_started : Binds K d_started ["value"] []
  g_started : mg "started" = some (.ref a_started)
  a__next_life : Addr
  d__next_life : FuncData
  F__next_life : Fun K "_next_life" "_next_life" s__next_life a__next_life d__next_life
  b__next_life : Binds K d__next_life ["node_entry"] []
  g__next_life : mg "_next_life" = some (.ref a__next_life)
  a_enroll_transaction : Addr
  d_enroll_transaction : FuncData
  F_enroll_transaction : Fun K "enroll_transaction" "enroll_transaction" s_enroll_transaction a_enroll_transaction d_enroll_transaction
  b_enroll_transaction : Binds K d_enroll_transaction ["name", "size", "zone", "node_entry", "beat_entry"] []
  g_enroll_transaction : mg "enroll_transaction" = some (.ref a_enroll_transaction)
  a_beat_transaction : Addr
  d_beat_transaction : FuncData
  F_beat_transaction : Fun K "beat_transaction" "beat_transaction" s_beat_transaction a_beat_transaction d_beat_transaction
  b_beat_transaction : Binds K d_beat_transaction ["name", "beat_rev", "life", "count"] []
  g_beat_transaction : mg "beat_transaction" = some (.ref a_beat_transaction)
  a_start_transaction : Addr
  d_start_transaction : FuncData
  F_start_transaction : Fun K "start_transaction" "start_transaction" s_start_transaction a_start_transaction d_start_transaction
  b_start_transaction : Binds K d_start_transaction ["slot", "task_entry"] []
  g_start_transaction : mg "start_transaction" = some (.ref a_start_transaction)
  a_end_transaction : Addr
  d_end_transaction : FuncData
  F_end_transaction : Fun K "end_transaction" "end_transaction" s_end_transaction a_end_transaction d_end_transaction
  b_end_transaction : Binds K d_end_transaction ["slot", "task_entry", "node", "node_entry"] []
  g_end_transaction : mg "end_transaction" = some (.ref a_end_transaction)
  a_has_plain_characters : Addr
  d_has_plain_characters : FuncData
  F_has_plain_characters : Fun K "has_plain_characters" "has_plain_characters" s_has_plain_characters a_has_plain_characters d_has_plain_characters
  b_has_plain_characters : Binds K d_has_plain_characters ["text"] []
  g_has_plain_characters : mg "has_plain_characters" = some (.ref a_has_plain_characters)
  a_is_integer_within : Addr
  d_is_integer_within : FuncData
  F_is_integer_within : Fun K "is_integer_within" "is_integer_within" s_is_integer_within a_is_integer_within d_is_integer_within
  b_is_integer_within : Binds K d_is_integer_within ["number", "low", "high"] []
  g_is_integer_within : mg "is_integer_within" = some (.ref a_is_integer_within)
  a_is_plain_name : Addr
  d_is_plain_name : FuncData
  F_is_plain_name : Fun K "is_plain_name" "is_plain_name" s_is_plain_name a_is_plain_name d_is_plain_name
  b_is_plain_name : Binds K d_is_plain_name ["name"] []
  g_is_plain_name : mg "is_plain_name" = some (.ref a_is_plain_name)
  a_is_slot_name : Addr
  d_is_slot_name : FuncData
  F_is_slot_name : Fun K "is_slot_name" "is_slot_name" s_is_slot_name a_is_slot_name d_is_slot_name
  b_is_slot_name : Binds K d_is_slot_name ["name"] []
  g_is_slot_name : mg "is_slot_name" = some (.ref a_is_slot_name)
  a_is_text : Addr
  d_is_text : FuncData
  F_is_text : Fun K "is_text" "is_text" s_is_text a_is_text d_is_text
  b_is_text : Binds K d_is_text ["text"] []
  g_is_text : mg "is_text" = some (.ref a_is_text)
  a_is_count : Addr
  d_is_count : FuncData
  F_is_count : Fun K "is_count" "is_count" s_is_count a_is_count d_is_count
  b_is_count : Binds K d_is_count ["number"] []
  g_is_count : mg "is_count" = some (.ref a_is_count)
  a_is_zone : Addr
  d_is_zone : FuncData
  F_is_zone : Fun K "is_zone" "is_zone" s_is_zone a_is_zone d_is_zone
  b_is_zone : Binds K d_is_zone ["zone"] []
  g_is_zone : mg "is_zone" = some (.ref a_is_zone)
  a_is_key : Addr
  d_is_key : FuncData
  F_is_key : Fun K "is_key" "is_key" s_is_key a_is_key d_is_key
  b_is_key : Binds K d_is_key ["kind", "name"] []
  g_is_key : mg "is_key" = some (.ref a_is_key)
  a__is_beat : Addr
  d__is_beat : FuncData
  F__is_beat : Fun K "_is_beat" "_is_beat" s__is_beat a__is_beat d__is_beat
  b__is_beat : Binds K d__is_beat ["value"] []
  g__is_beat : mg "_is_beat" = some (.ref a__is_beat)
  a__is_drain : Addr
  d__is_drain : FuncData
  F__is_drain : Fun K "_is_drain" "_is_drain" s__is_drain a__is_drain d__is_drain
  b__is_drain : Binds K d__is_drain ["value"] []
  g__is_drain : mg "_is_drain" = some (.ref a__is_drain)
  a__is_node : Addr
  d__is_node : FuncData
  F__is_node : Fun K "_is_node" "_is_node" s__is_node a__is_node d__is_node
  b__is_node : Binds K d__is_node ["value"] []
  g__is_node : mg "_is_node" = some (.ref a__is_node)
  a__is_note : Addr
  d__is_note : FuncData
  F__is_note : Fun K "_is_note" "_is_note" s__is_note a__is_note d__is_note
  b__is_note : Binds K d__is_note ["value"] []
  g__is_note : mg "_is_note" = some (.ref a__is_note)
  a__is_rollout : Addr
  d__is_rollout : FuncData
  F__is_rollout : Fun K "_is_rollout" "_is_rollout" s__is_rollout a__is_rollout d__is_rollout
  b__is_rollout : Binds K d__is_rollout ["value"] []
  g__is_rollout : mg "_is_rollout" = some (.ref a__is_rollout)
  a__are_open_numbers : Addr
  d__are_open_numbers : FuncData
  F__are_open_numbers : Fun K "_are_open_numbers" "_are_open_numbers" s__are_open_numbers a__are_open_numbers d__are_open_numbers
  b__are_open_numbers : Binds K d__are_open_numbers ["numbers"] []
  g__are_open_numbers : mg "_are_open_numbers" = some (.ref a__are_open_numbers)
  a__is_service : Addr
  d__is_service : FuncData
  F__is_service : Fun K "_is_service" "_is_service" s__is_service a__is_service d__is_service
  b__is_service : Binds K d__is_service ["value"] []
  g__is_service : mg "_is_service" = some (.ref a__is_service)
  a__is_task : Addr
  d__is_task : FuncData
  F__is_task : Fun K "_is_task" "_is_task" s__is_task a__is_task d__is_task
  b__is_task : Binds K d__is_task ["value"] []
  g__is_task : mg "_is_task" = some (.ref a__is_task)
  a_is_object : Addr
  d_is_object : FuncData
  F_is_object : Fun K "is_object" "is_object" s_is_object a_is_object d_is_object
  b_is_object : Binds K d_is_object ["kind", "name", "value"] []
  g_is_object : mg "is_object" = some (.ref a_is_object)
  a__is_tuple_of : Addr
  d__is_tuple_of : FuncData
  F__is_tuple_of : Fun K "_is_tuple_of" "_is_tuple_of" s__is_tuple_of a__is_tuple_of d__is_tuple_of
  b__is_tuple_of : Binds K d__is_tuple_of ["value", "size"] []
  g__is_tuple_of : mg "_is_tuple_of" = some (.ref a__is_tuple_of)
  a__is_condition : Addr
  d__is_condition : FuncData
  F__is_condition : Fun K "_is_condition" "_is_condition" s__is_condition a__is_condition d__is_condition
  b__is_condition : Binds K d__is_condition ["condition"] []
  g__is_condition : mg "_is_condition" = some (.ref a__is_condition)
  a__is_put : Addr
  d__is_put : FuncData
  F__is_put : Fun K "_is_put" "_is_put" s__is_put a__is_put d__is_put
  b__is_put : Binds K d__is_put ["put"] []
  g__is_put : mg "_is_put" = some (.ref a__is_put)
  a__is_delete : Addr
  d__is_delete : FuncData
  F__is_delete : Fun K "_is_delete" "_is_delete" s__is_delete a__is_delete d__is_delete
  b__is_delete : Binds K d__is_delete ["delete"] []
  g__is_delete : mg "_is_delete" = some (.ref a__is_delete)
  a__are_distinct : Addr
  d__are_distinct : FuncData
  F__are_distinct : Fun K "_are_distinct" "_are_distinct" s__are_distinct a__are_distinct d__are_distinct
  b__are_distinct : Binds K d__are_distinct ["keys"] []
  g__are_distinct : mg "_are_distinct" = some (.ref a__are_distinct)
  a_check_transaction : Addr
  d_check_transaction : FuncData
  F_check_transaction : Fun K "check_transaction" "check_transaction" s_check_transaction a_check_transaction d_check_transaction
  b_check_transaction : Binds K d_check_transaction ["transaction"] []
  g_check_transaction : mg "check_transaction" = some (.ref a_check_transaction)
  a__sorted_by_key : Addr
  d__sorted_by_key : FuncData
  cc__sorted_by_key : Addr
  pp__sorted_by_key : Addr
  hc__sorted_by_key : d__sorted_by_key.code = .ref cc__sorted_by_key
  F__sorted_by_key : Fun K "_sorted_by_key" "_sorted_by_key" s__sorted_by_key a__sorted_by_key d__sorted_by_key
  b__sorted_by_key : Binds K d__sorted_by_key ["members"] []
  g__sorted_by_key : mg "_sorted_by_key" = some (.ref a__sorted_by_key)
  a_Store___init__ : Addr
  d_Store___init__ : FuncData
  F_Store___init__ : Fun K "__init__" "Store.__init__" s_Store___init__ a_Store___init__ d_Store___init__
  b_Store___init__ : Binds K d_Store___init__ ["self"] []
  a_Store_entry : Addr
  d_Store_entry : FuncData
  F_Store_entry : Fun K "entry" "Store.entry" s_Store_entry a_Store_entry d_Store_entry
  b_Store_entry : Binds K d_Store_entry ["self", "kind", "name"] []
  m_Store_entry : Meth K a_Store "entry" a_Store_entry
  a_Store_entries : Addr
  d_Store_entries : FuncData
  F_Store_entries : Fun K "entries" "Store.entries" s_Store_entries a_Store_entries d_Store_entries
  b_Store_entries : Binds K d_Store_entries ["self"] []
  m_Store_entries : Meth K a_Store "entries" a_Store_entries
  a_Store_apply : Addr
  d_Store_apply : FuncData
  F_Store_apply : Fun K "apply" "Store.apply" s_Store_apply a_Store_apply d_Store_apply
  b_Store_apply : Binds K d_Store_apply ["self", "transaction"] []
  m_Store_apply : Meth K a_Store "apply" a_Store_apply
  a_Store__holds : Addr
  d_Store__holds : FuncData
  F_Store__holds : Fun K "_holds" "Store._holds" s_Store__holds a_Store__holds d_Store__holds
  b_Store__holds : Binds K d_Store__holds ["self", "kind", "name", "revision"] []
  m_Store__holds : Meth K a_Store "_holds" a_Store__holds
  a_Store__change : Addr
  d_Store__change : FuncData
  F_Store__change : Fun K "_change" "Store._change" s_Store__change a_Store__change d_Store__change
  b_Store__change : Binds K d_Store__change ["self", "puts", "deletes"] []
  m_Store__change : Meth K a_Store "_change" a_Store__change
  a__law_number : Addr
  d__law_number : FuncData
  F__law_number : Fun K "_law_number" "_law_number" s__law_number a__law_number d__law_number
  b__law_number : Binds K d__law_number ["script", "k"] []
  g__law_number : mg "_law_number" = some (.ref a__law_number)
  a__law_digits : Addr
  d__law_digits : FuncData
  F__law_digits : Fun K "_law_digits" "_law_digits" s__law_digits a__law_digits d__law_digits
  b__law_digits : Binds K d__law_digits ["script", "k", "sizes"] []
  g__law_digits : mg "_law_digits" = some (.ref a__law_digits)
  a__law_fill : Addr
  d__law_fill : FuncData
  F__law_fill : Fun K "_law_fill" "_law_fill" s__law_fill a__law_fill d__law_fill
  b__law_fill : Binds K d__law_fill ["script"] []
  g__law_fill : mg "_law_fill" = some (.ref a__law_fill)
  a__law_bind : Addr
  d__law_bind : FuncData
  F__law_bind : Fun K "_law_bind" "_law_bind" s__law_bind a__law_bind d__law_bind
  b__law_bind : Binds K d__law_bind ["store", "slot"] []
  g__law_bind : mg "_law_bind" = some (.ref a__law_bind)
  a__law_refused : Addr
  d__law_refused : FuncData
  F__law_refused : Fun K "_law_refused" "_law_refused" s__law_refused a__law_refused d__law_refused
  b__law_refused : Binds K d__law_refused ["store", "transaction", "kept"] []
  g__law_refused : mg "_law_refused" = some (.ref a__law_refused)
  a__law_enroll : Addr
  d__law_enroll : FuncData
  F__law_enroll : Fun K "_law_enroll" "_law_enroll" s__law_enroll a__law_enroll d__law_enroll
  b__law_enroll : Binds K d__law_enroll ["store", "old", "size"] []
  g__law_enroll : mg "_law_enroll" = some (.ref a__law_enroll)
  a__law_beat : Addr
  d__law_beat : FuncData
  F__law_beat : Fun K "_law_beat" "_law_beat" s__law_beat a__law_beat d__law_beat
  b__law_beat : Binds K d__law_beat ["store", "rev", "number"] []
  g__law_beat : mg "_law_beat" = some (.ref a__law_beat)
  a__law_start : Addr
  d__law_start : FuncData
  F__law_start : Fun K "_law_start" "_law_start" s__law_start a__law_start d__law_start
  b__law_start : Binds K d__law_start ["store", "slot", "entry"] []
  g__law_start : mg "_law_start" = some (.ref a__law_start)
  a__law_end : Addr
  d__law_end : FuncData
  F__law_end : Fun K "_law_end" "_law_end" s__law_end a__law_end d__law_end
  b__law_end : Binds K d__law_end ["store", "slot", "entry", "node"] []
  g__law_end : mg "_law_end" = some (.ref a__law_end)
  a__law_good : Addr
  d__law_good : FuncData
  F__law_good : Fun K "_law_good" "_law_good" s__law_good a__law_good d__law_good
  b__law_good : Binds K d__law_good ["store"] []
  g__law_good : mg "_law_good" = some (.ref a__law_good)
  a__law_deed : Addr
  d__law_deed : FuncData
  F__law_deed : Fun K "_law_deed" "_law_deed" s__law_deed a__law_deed d__law_deed
  b__law_deed : Binds K d__law_deed ["store", "first", "digits", "number"] []
  g__law_deed : mg "_law_deed" = some (.ref a__law_deed)
  a_law : Addr
  d_law : FuncData
  F_law : Fun K "law" "law" s_law a_law d_law
  b_law : Binds K d_law ["script"] []
  g_law : mg "law" = some (.ref a_law)
  K_Store : Cls K a_Store
  g_Store : mg "Store" = some (.ref a_Store)
  M_Store : Mk K a_Store a_Store___init__
  na_Store_revision : NoAttr K a_Store "revision"
  na_Store_oldest : NoAttr K a_Store "oldest"
  na_Store__table : NoAttr K a_Store "_table"
  na_Store__changes : NoAttr K a_Store "_changes"
  t_SIZE : Tok
  c_SIZE : mg "SIZE" = some (.int 2 t_SIZE)
  t_STATE : Tok
  c_STATE : mg "STATE" = some (.int 3 t_STATE)
  t_SPACE : Tok
  c_SPACE : mg "SPACE" = some (.int 32 t_SPACE)
  t_PERCENT : Tok
  c_PERCENT : mg "PERCENT" = some (.int 37 t_PERCENT)
  t_TILDE : Tok
  c_TILDE : mg "TILDE" = some (.int 126 t_TILDE)
  t_DIGITS : Tok
  c_DIGITS : mg "DIGITS" = some (.str "0123456789" t_DIGITS)
  ca_KINDS : Addr
  c_KINDS : mg "KINDS" = some (.ref ca_KINDS)
  q_KINDS : ∀ H, SqT K H ca_KINDS [(.str "beat"), (.str "drain"), (.str "node"), (.str "note"), (.str "rollout"), (.str "service"), (.str "task")]
  ca_STATES : Addr
  c_STATES : mg "STATES" = some (.ref ca_STATES)
  q_STATES : ∀ H, SqT K H ca_STATES [(.str "new"), (.str "bound"), (.str "running"), (.str "ended")]
  t_NAME_CHARACTERS : Tok
  c_NAME_CHARACTERS : mg "NAME_CHARACTERS" = some (.str "abcdefghijklmnopqrstuvwxyz0123456789" t_NAME_CHARACTERS)
  t_MOST_NAME : Tok
  c_MOST_NAME : mg "MOST_NAME" = some (.int 12 t_MOST_NAME)
  t_MOST_TEXT : Tok
  c_MOST_TEXT : mg "MOST_TEXT" = some (.int 40 t_MOST_TEXT)
  t_MOST_COUNT : Tok
  c_MOST_COUNT : mg "MOST_COUNT" = some (.int 1000000000000 t_MOST_COUNT)
  t_MOST_NUMBER : Tok
  c_MOST_NUMBER : mg "MOST_NUMBER" = some (.int 9 t_MOST_NUMBER)
  t_MOST_MEMBERS : Tok
  c_MOST_MEMBERS : mg "MOST_MEMBERS" = some (.int 12 t_MOST_MEMBERS)
  ca_VALUE_FORMS : Addr
  c_VALUE_FORMS : mg "VALUE_FORMS" = some (.ref ca_VALUE_FORMS)
  de_VALUE_FORMS : Array DictEntry
  dn_VALUE_FORMS : Nat
  D_VALUE_FORMS : KDict K w ca_VALUE_FORMS de_VALUE_FORMS dn_VALUE_FORMS
  j_VALUE_FORMS_beat : PySem.W.nsIn K ca_VALUE_FORMS "beat" = some (some (.ref a__is_beat))
  j_VALUE_FORMS_drain : PySem.W.nsIn K ca_VALUE_FORMS "drain" = some (some (.ref a__is_drain))
  j_VALUE_FORMS_node : PySem.W.nsIn K ca_VALUE_FORMS "node" = some (some (.ref a__is_node))
  j_VALUE_FORMS_note : PySem.W.nsIn K ca_VALUE_FORMS "note" = some (some (.ref a__is_note))
  j_VALUE_FORMS_rollout : PySem.W.nsIn K ca_VALUE_FORMS "rollout" = some (some (.ref a__is_rollout))
  j_VALUE_FORMS_service : PySem.W.nsIn K ca_VALUE_FORMS "service" = some (some (.ref a__is_service))
  j_VALUE_FORMS_task : PySem.W.nsIn K ca_VALUE_FORMS "task" = some (some (.ref a__is_task))
  n_isinstance : mg "isinstance" = none
  n_int : mg "int" = none
  n_bool : mg "bool" = none
  n_len : mg "len" = none
  n_str : mg "str" = none
  n_all : mg "all" = none
  n_ord : mg "ord" = none
  n_tuple : mg "tuple" = none
  n_list : mg "list" = none
  n_sorted : mg "sorted" = none
  n_range : mg "range" = none
  n_abs : mg "abs" = none

theorem ne_Store_revision_oldest : (Str.ofString "revision" == Str.ofString "oldest") = false := by decide +kernel
theorem ne_Store_revision_oldest_p : ¬ (Str.ofString "revision" = Str.ofString "oldest") := by decide +kernel
theorem ne_Store_revision__table : (Str.ofString "revision" == Str.ofString "_table") = false := by decide +kernel
theorem ne_Store_revision__table_p : ¬ (Str.ofString "revision" = Str.ofString "_table") := by decide +kernel
theorem ne_Store_revision__changes : (Str.ofString "revision" == Str.ofString "_changes") = false := by decide +kernel
theorem ne_Store_revision__changes_p : ¬ (Str.ofString "revision" = Str.ofString "_changes") := by decide +kernel
theorem ne_Store_oldest_revision : (Str.ofString "oldest" == Str.ofString "revision") = false := by decide +kernel
theorem ne_Store_oldest_revision_p : ¬ (Str.ofString "oldest" = Str.ofString "revision") := by decide +kernel
theorem ne_Store_oldest__table : (Str.ofString "oldest" == Str.ofString "_table") = false := by decide +kernel
theorem ne_Store_oldest__table_p : ¬ (Str.ofString "oldest" = Str.ofString "_table") := by decide +kernel
theorem ne_Store_oldest__changes : (Str.ofString "oldest" == Str.ofString "_changes") = false := by decide +kernel
theorem ne_Store_oldest__changes_p : ¬ (Str.ofString "oldest" = Str.ofString "_changes") := by decide +kernel
theorem ne_Store__table_revision : (Str.ofString "_table" == Str.ofString "revision") = false := by decide +kernel
theorem ne_Store__table_revision_p : ¬ (Str.ofString "_table" = Str.ofString "revision") := by decide +kernel
theorem ne_Store__table_oldest : (Str.ofString "_table" == Str.ofString "oldest") = false := by decide +kernel
theorem ne_Store__table_oldest_p : ¬ (Str.ofString "_table" = Str.ofString "oldest") := by decide +kernel
theorem ne_Store__table__changes : (Str.ofString "_table" == Str.ofString "_changes") = false := by decide +kernel
theorem ne_Store__table__changes_p : ¬ (Str.ofString "_table" = Str.ofString "_changes") := by decide +kernel
theorem ne_Store__changes_revision : (Str.ofString "_changes" == Str.ofString "revision") = false := by decide +kernel
theorem ne_Store__changes_revision_p : ¬ (Str.ofString "_changes" = Str.ofString "revision") := by decide +kernel
theorem ne_Store__changes_oldest : (Str.ofString "_changes" == Str.ofString "oldest") = false := by decide +kernel
theorem ne_Store__changes_oldest_p : ¬ (Str.ofString "_changes" = Str.ofString "oldest") := by decide +kernel
theorem ne_Store__changes__table : (Str.ofString "_changes" == Str.ofString "_table") = false := by decide +kernel
theorem ne_Store__changes__table_p : ¬ (Str.ofString "_changes" = Str.ofString "_table") := by decide +kernel
theorem ne_Store_entry_revision : (Str.ofString "entry" == Str.ofString "revision") = false := by decide +kernel
theorem ne_Store_entry_revision_p : ¬ (Str.ofString "entry" = Str.ofString "revision") := by decide +kernel
theorem ne_Store_entry_oldest : (Str.ofString "entry" == Str.ofString "oldest") = false := by decide +kernel
theorem ne_Store_entry_oldest_p : ¬ (Str.ofString "entry" = Str.ofString "oldest") := by decide +kernel
theorem ne_Store_entry__table : (Str.ofString "entry" == Str.ofString "_table") = false := by decide +kernel
theorem ne_Store_entry__table_p : ¬ (Str.ofString "entry" = Str.ofString "_table") := by decide +kernel
theorem ne_Store_entry__changes : (Str.ofString "entry" == Str.ofString "_changes") = false := by decide +kernel
theorem ne_Store_entry__changes_p : ¬ (Str.ofString "entry" = Str.ofString "_changes") := by decide +kernel
theorem ne_Store_entries_revision : (Str.ofString "entries" == Str.ofString "revision") = false := by decide +kernel
theorem ne_Store_entries_revision_p : ¬ (Str.ofString "entries" = Str.ofString "revision") := by decide +kernel
theorem ne_Store_entries_oldest : (Str.ofString "entries" == Str.ofString "oldest") = false := by decide +kernel
theorem ne_Store_entries_oldest_p : ¬ (Str.ofString "entries" = Str.ofString "oldest") := by decide +kernel
theorem ne_Store_entries__table : (Str.ofString "entries" == Str.ofString "_table") = false := by decide +kernel
theorem ne_Store_entries__table_p : ¬ (Str.ofString "entries" = Str.ofString "_table") := by decide +kernel
theorem ne_Store_entries__changes : (Str.ofString "entries" == Str.ofString "_changes") = false := by decide +kernel
theorem ne_Store_entries__changes_p : ¬ (Str.ofString "entries" = Str.ofString "_changes") := by decide +kernel
theorem ne_Store_apply_revision : (Str.ofString "apply" == Str.ofString "revision") = false := by decide +kernel
theorem ne_Store_apply_revision_p : ¬ (Str.ofString "apply" = Str.ofString "revision") := by decide +kernel
theorem ne_Store_apply_oldest : (Str.ofString "apply" == Str.ofString "oldest") = false := by decide +kernel
theorem ne_Store_apply_oldest_p : ¬ (Str.ofString "apply" = Str.ofString "oldest") := by decide +kernel
theorem ne_Store_apply__table : (Str.ofString "apply" == Str.ofString "_table") = false := by decide +kernel
theorem ne_Store_apply__table_p : ¬ (Str.ofString "apply" = Str.ofString "_table") := by decide +kernel
theorem ne_Store_apply__changes : (Str.ofString "apply" == Str.ofString "_changes") = false := by decide +kernel
theorem ne_Store_apply__changes_p : ¬ (Str.ofString "apply" = Str.ofString "_changes") := by decide +kernel
theorem ne_Store__holds_revision : (Str.ofString "_holds" == Str.ofString "revision") = false := by decide +kernel
theorem ne_Store__holds_revision_p : ¬ (Str.ofString "_holds" = Str.ofString "revision") := by decide +kernel
theorem ne_Store__holds_oldest : (Str.ofString "_holds" == Str.ofString "oldest") = false := by decide +kernel
theorem ne_Store__holds_oldest_p : ¬ (Str.ofString "_holds" = Str.ofString "oldest") := by decide +kernel
theorem ne_Store__holds__table : (Str.ofString "_holds" == Str.ofString "_table") = false := by decide +kernel
theorem ne_Store__holds__table_p : ¬ (Str.ofString "_holds" = Str.ofString "_table") := by decide +kernel
theorem ne_Store__holds__changes : (Str.ofString "_holds" == Str.ofString "_changes") = false := by decide +kernel
theorem ne_Store__holds__changes_p : ¬ (Str.ofString "_holds" = Str.ofString "_changes") := by decide +kernel
theorem ne_Store__change_revision : (Str.ofString "_change" == Str.ofString "revision") = false := by decide +kernel
theorem ne_Store__change_revision_p : ¬ (Str.ofString "_change" = Str.ofString "revision") := by decide +kernel
theorem ne_Store__change_oldest : (Str.ofString "_change" == Str.ofString "oldest") = false := by decide +kernel
theorem ne_Store__change_oldest_p : ¬ (Str.ofString "_change" = Str.ofString "oldest") := by decide +kernel
theorem ne_Store__change__table : (Str.ofString "_change" == Str.ofString "_table") = false := by decide +kernel
theorem ne_Store__change__table_p : ¬ (Str.ofString "_change" = Str.ofString "_table") := by decide +kernel
theorem ne_Store__change__changes : (Str.ofString "_change" == Str.ofString "_changes") = false := by decide +kernel
theorem ne_Store__change__changes_p : ¬ (Str.ofString "_change" = Str.ofString "_changes") := by decide +kernel
/-- the attributes of a Store, in the order in which they are stored -/
def fl_Store (v0 v1 v2 v3 : V) : List (Str × V) := [("revision", v0), ("oldest", v1), ("_table", v2), ("_changes", v3)]
theorem fl_Store_revision {v0 v1 v2 v3 : V} : (fl_Store v0 v1 v2 v3).lookup ("revision" : Str) = some v0 := by unfold fl_Store; simp [List.lookup, ne_Store_revision_oldest, ne_Store_revision__table, ne_Store_revision__changes, ne_Store_oldest_revision, ne_Store_oldest__table, ne_Store_oldest__changes, ne_Store__table_revision, ne_Store__table_oldest, ne_Store__table__changes, ne_Store__changes_revision, ne_Store__changes_oldest, ne_Store__changes__table, ne_Store_entry_revision, ne_Store_entry_oldest, ne_Store_entry__table, ne_Store_entry__changes, ne_Store_entries_revision, ne_Store_entries_oldest, ne_Store_entries__table, ne_Store_entries__changes, ne_Store_apply_revision, ne_Store_apply_oldest, ne_Store_apply__table, ne_Store_apply__changes, ne_Store__holds_revision, ne_Store__holds_oldest, ne_Store__holds__table, ne_Store__holds__changes, ne_Store__change_revision, ne_Store__change_oldest, ne_Store__change__table, ne_Store__change__changes, ne_Store_revision_oldest_p, ne_Store_revision__table_p, ne_Store_revision__changes_p, ne_Store_oldest_revision_p, ne_Store_oldest__table_p, ne_Store_oldest__changes_p, ne_Store__table_revision_p, ne_Store__table_oldest_p, ne_Store__table__changes_p, ne_Store__changes_revision_p, ne_Store__changes_oldest_p, ne_Store__changes__table_p, ne_Store_entry_revision_p, ne_Store_entry_oldest_p, ne_Store_entry__table_p, ne_Store_entry__changes_p, ne_Store_entries_revision_p, ne_Store_entries_oldest_p, ne_Store_entries__table_p, ne_Store_entries__changes_p, ne_Store_apply_revision_p, ne_Store_apply_oldest_p, ne_Store_apply__table_p, ne_Store_apply__changes_p, ne_Store__holds_revision_p, ne_Store__holds_oldest_p, ne_Store__holds__table_p, ne_Store__holds__changes_p, ne_Store__change_revision_p, ne_Store__change_oldest_p, ne_Store__change__table_p, ne_Store__change__changes_p]
theorem pf_Store_revision {v0 v1 v2 v3 x : V} : putF ("revision" : Str) x (fl_Store v0 v1 v2 v3) = fl_Store x v1 v2 v3 := by unfold fl_Store; simp [putF, ne_Store_revision_oldest, ne_Store_revision__table, ne_Store_revision__changes, ne_Store_oldest_revision, ne_Store_oldest__table, ne_Store_oldest__changes, ne_Store__table_revision, ne_Store__table_oldest, ne_Store__table__changes, ne_Store__changes_revision, ne_Store__changes_oldest, ne_Store__changes__table, ne_Store_entry_revision, ne_Store_entry_oldest, ne_Store_entry__table, ne_Store_entry__changes, ne_Store_entries_revision, ne_Store_entries_oldest, ne_Store_entries__table, ne_Store_entries__changes, ne_Store_apply_revision, ne_Store_apply_oldest, ne_Store_apply__table, ne_Store_apply__changes, ne_Store__holds_revision, ne_Store__holds_oldest, ne_Store__holds__table, ne_Store__holds__changes, ne_Store__change_revision, ne_Store__change_oldest, ne_Store__change__table, ne_Store__change__changes, ne_Store_revision_oldest_p, ne_Store_revision__table_p, ne_Store_revision__changes_p, ne_Store_oldest_revision_p, ne_Store_oldest__table_p, ne_Store_oldest__changes_p, ne_Store__table_revision_p, ne_Store__table_oldest_p, ne_Store__table__changes_p, ne_Store__changes_revision_p, ne_Store__changes_oldest_p, ne_Store__changes__table_p, ne_Store_entry_revision_p, ne_Store_entry_oldest_p, ne_Store_entry__table_p, ne_Store_entry__changes_p, ne_Store_entries_revision_p, ne_Store_entries_oldest_p, ne_Store_entries__table_p, ne_Store_entries__changes_p, ne_Store_apply_revision_p, ne_Store_apply_oldest_p, ne_Store_apply__table_p, ne_Store_apply__changes_p, ne_Store__holds_revision_p, ne_Store__holds_oldest_p, ne_Store__holds__table_p, ne_Store__holds__changes_p, ne_Store__change_revision_p, ne_Store__change_oldest_p, ne_Store__change__table_p, ne_Store__change__changes_p]
theorem fl_Store_oldest {v0 v1 v2 v3 : V} : (fl_Store v0 v1 v2 v3).lookup ("oldest" : Str) = some v1 := by unfold fl_Store; simp [List.lookup, ne_Store_revision_oldest, ne_Store_revision__table, ne_Store_revision__changes, ne_Store_oldest_revision, ne_Store_oldest__table, ne_Store_oldest__changes, ne_Store__table_revision, ne_Store__table_oldest, ne_Store__table__changes, ne_Store__changes_revision, ne_Store__changes_oldest, ne_Store__changes__table, ne_Store_entry_revision, ne_Store_entry_oldest, ne_Store_entry__table, ne_Store_entry__changes, ne_Store_entries_revision, ne_Store_entries_oldest, ne_Store_entries__table, ne_Store_entries__changes, ne_Store_apply_revision, ne_Store_apply_oldest, ne_Store_apply__table, ne_Store_apply__changes, ne_Store__holds_revision, ne_Store__holds_oldest, ne_Store__holds__table, ne_Store__holds__changes, ne_Store__change_revision, ne_Store__change_oldest, ne_Store__change__table, ne_Store__change__changes, ne_Store_revision_oldest_p, ne_Store_revision__table_p, ne_Store_revision__changes_p, ne_Store_oldest_revision_p, ne_Store_oldest__table_p, ne_Store_oldest__changes_p, ne_Store__table_revision_p, ne_Store__table_oldest_p, ne_Store__table__changes_p, ne_Store__changes_revision_p, ne_Store__changes_oldest_p, ne_Store__changes__table_p, ne_Store_entry_revision_p, ne_Store_entry_oldest_p, ne_Store_entry__table_p, ne_Store_entry__changes_p, ne_Store_entries_revision_p, ne_Store_entries_oldest_p, ne_Store_entries__table_p, ne_Store_entries__changes_p, ne_Store_apply_revision_p, ne_Store_apply_oldest_p, ne_Store_apply__table_p, ne_Store_apply__changes_p, ne_Store__holds_revision_p, ne_Store__holds_oldest_p, ne_Store__holds__table_p, ne_Store__holds__changes_p, ne_Store__change_revision_p, ne_Store__change_oldest_p, ne_Store__change__table_p, ne_Store__change__changes_p]
theorem pf_Store_oldest {v0 v1 v2 v3 x : V} : putF ("oldest" : Str) x (fl_Store v0 v1 v2 v3) = fl_Store v0 x v2 v3 := by unfold fl_Store; simp [putF, ne_Store_revision_oldest, ne_Store_revision__table, ne_Store_revision__changes, ne_Store_oldest_revision, ne_Store_oldest__table, ne_Store_oldest__changes, ne_Store__table_revision, ne_Store__table_oldest, ne_Store__table__changes, ne_Store__changes_revision, ne_Store__changes_oldest, ne_Store__changes__table, ne_Store_entry_revision, ne_Store_entry_oldest, ne_Store_entry__table, ne_Store_entry__changes, ne_Store_entries_revision, ne_Store_entries_oldest, ne_Store_entries__table, ne_Store_entries__changes, ne_Store_apply_revision, ne_Store_apply_oldest, ne_Store_apply__table, ne_Store_apply__changes, ne_Store__holds_revision, ne_Store__holds_oldest, ne_Store__holds__table, ne_Store__holds__changes, ne_Store__change_revision, ne_Store__change_oldest, ne_Store__change__table, ne_Store__change__changes, ne_Store_revision_oldest_p, ne_Store_revision__table_p, ne_Store_revision__changes_p, ne_Store_oldest_revision_p, ne_Store_oldest__table_p, ne_Store_oldest__changes_p, ne_Store__table_revision_p, ne_Store__table_oldest_p, ne_Store__table__changes_p, ne_Store__changes_revision_p, ne_Store__changes_oldest_p, ne_Store__changes__table_p, ne_Store_entry_revision_p, ne_Store_entry_oldest_p, ne_Store_entry__table_p, ne_Store_entry__changes_p, ne_Store_entries_revision_p, ne_Store_entries_oldest_p, ne_Store_entries__table_p, ne_Store_entries__changes_p, ne_Store_apply_revision_p, ne_Store_apply_oldest_p, ne_Store_apply__table_p, ne_Store_apply__changes_p, ne_Store__holds_revision_p, ne_Store__holds_oldest_p, ne_Store__holds__table_p, ne_Store__holds__changes_p, ne_Store__change_revision_p, ne_Store__change_oldest_p, ne_Store__change__table_p, ne_Store__change__changes_p]
theorem fl_Store__table {v0 v1 v2 v3 : V} : (fl_Store v0 v1 v2 v3).lookup ("_table" : Str) = some v2 := by unfold fl_Store; simp [List.lookup, ne_Store_revision_oldest, ne_Store_revision__table, ne_Store_revision__changes, ne_Store_oldest_revision, ne_Store_oldest__table, ne_Store_oldest__changes, ne_Store__table_revision, ne_Store__table_oldest, ne_Store__table__changes, ne_Store__changes_revision, ne_Store__changes_oldest, ne_Store__changes__table, ne_Store_entry_revision, ne_Store_entry_oldest, ne_Store_entry__table, ne_Store_entry__changes, ne_Store_entries_revision, ne_Store_entries_oldest, ne_Store_entries__table, ne_Store_entries__changes, ne_Store_apply_revision, ne_Store_apply_oldest, ne_Store_apply__table, ne_Store_apply__changes, ne_Store__holds_revision, ne_Store__holds_oldest, ne_Store__holds__table, ne_Store__holds__changes, ne_Store__change_revision, ne_Store__change_oldest, ne_Store__change__table, ne_Store__change__changes, ne_Store_revision_oldest_p, ne_Store_revision__table_p, ne_Store_revision__changes_p, ne_Store_oldest_revision_p, ne_Store_oldest__table_p, ne_Store_oldest__changes_p, ne_Store__table_revision_p, ne_Store__table_oldest_p, ne_Store__table__changes_p, ne_Store__changes_revision_p, ne_Store__changes_oldest_p, ne_Store__changes__table_p, ne_Store_entry_revision_p, ne_Store_entry_oldest_p, ne_Store_entry__table_p, ne_Store_entry__changes_p, ne_Store_entries_revision_p, ne_Store_entries_oldest_p, ne_Store_entries__table_p, ne_Store_entries__changes_p, ne_Store_apply_revision_p, ne_Store_apply_oldest_p, ne_Store_apply__table_p, ne_Store_apply__changes_p, ne_Store__holds_revision_p, ne_Store__holds_oldest_p, ne_Store__holds__table_p, ne_Store__holds__changes_p, ne_Store__change_revision_p, ne_Store__change_oldest_p, ne_Store__change__table_p, ne_Store__change__changes_p]
theorem pf_Store__table {v0 v1 v2 v3 x : V} : putF ("_table" : Str) x (fl_Store v0 v1 v2 v3) = fl_Store v0 v1 x v3 := by unfold fl_Store; simp [putF, ne_Store_revision_oldest, ne_Store_revision__table, ne_Store_revision__changes, ne_Store_oldest_revision, ne_Store_oldest__table, ne_Store_oldest__changes, ne_Store__table_revision, ne_Store__table_oldest, ne_Store__table__changes, ne_Store__changes_revision, ne_Store__changes_oldest, ne_Store__changes__table, ne_Store_entry_revision, ne_Store_entry_oldest, ne_Store_entry__table, ne_Store_entry__changes, ne_Store_entries_revision, ne_Store_entries_oldest, ne_Store_entries__table, ne_Store_entries__changes, ne_Store_apply_revision, ne_Store_apply_oldest, ne_Store_apply__table, ne_Store_apply__changes, ne_Store__holds_revision, ne_Store__holds_oldest, ne_Store__holds__table, ne_Store__holds__changes, ne_Store__change_revision, ne_Store__change_oldest, ne_Store__change__table, ne_Store__change__changes, ne_Store_revision_oldest_p, ne_Store_revision__table_p, ne_Store_revision__changes_p, ne_Store_oldest_revision_p, ne_Store_oldest__table_p, ne_Store_oldest__changes_p, ne_Store__table_revision_p, ne_Store__table_oldest_p, ne_Store__table__changes_p, ne_Store__changes_revision_p, ne_Store__changes_oldest_p, ne_Store__changes__table_p, ne_Store_entry_revision_p, ne_Store_entry_oldest_p, ne_Store_entry__table_p, ne_Store_entry__changes_p, ne_Store_entries_revision_p, ne_Store_entries_oldest_p, ne_Store_entries__table_p, ne_Store_entries__changes_p, ne_Store_apply_revision_p, ne_Store_apply_oldest_p, ne_Store_apply__table_p, ne_Store_apply__changes_p, ne_Store__holds_revision_p, ne_Store__holds_oldest_p, ne_Store__holds__table_p, ne_Store__holds__changes_p, ne_Store__change_revision_p, ne_Store__change_oldest_p, ne_Store__change__table_p, ne_Store__change__changes_p]
theorem fl_Store__changes {v0 v1 v2 v3 : V} : (fl_Store v0 v1 v2 v3).lookup ("_changes" : Str) = some v3 := by unfold fl_Store; simp [List.lookup, ne_Store_revision_oldest, ne_Store_revision__table, ne_Store_revision__changes, ne_Store_oldest_revision, ne_Store_oldest__table, ne_Store_oldest__changes, ne_Store__table_revision, ne_Store__table_oldest, ne_Store__table__changes, ne_Store__changes_revision, ne_Store__changes_oldest, ne_Store__changes__table, ne_Store_entry_revision, ne_Store_entry_oldest, ne_Store_entry__table, ne_Store_entry__changes, ne_Store_entries_revision, ne_Store_entries_oldest, ne_Store_entries__table, ne_Store_entries__changes, ne_Store_apply_revision, ne_Store_apply_oldest, ne_Store_apply__table, ne_Store_apply__changes, ne_Store__holds_revision, ne_Store__holds_oldest, ne_Store__holds__table, ne_Store__holds__changes, ne_Store__change_revision, ne_Store__change_oldest, ne_Store__change__table, ne_Store__change__changes, ne_Store_revision_oldest_p, ne_Store_revision__table_p, ne_Store_revision__changes_p, ne_Store_oldest_revision_p, ne_Store_oldest__table_p, ne_Store_oldest__changes_p, ne_Store__table_revision_p, ne_Store__table_oldest_p, ne_Store__table__changes_p, ne_Store__changes_revision_p, ne_Store__changes_oldest_p, ne_Store__changes__table_p, ne_Store_entry_revision_p, ne_Store_entry_oldest_p, ne_Store_entry__table_p, ne_Store_entry__changes_p, ne_Store_entries_revision_p, ne_Store_entries_oldest_p, ne_Store_entries__table_p, ne_Store_entries__changes_p, ne_Store_apply_revision_p, ne_Store_apply_oldest_p, ne_Store_apply__table_p, ne_Store_apply__changes_p, ne_Store__holds_revision_p, ne_Store__holds_oldest_p, ne_Store__holds__table_p, ne_Store__holds__changes_p, ne_Store__change_revision_p, ne_Store__change_oldest_p, ne_Store__change__table_p, ne_Store__change__changes_p]
theorem pf_Store__changes {v0 v1 v2 v3 x : V} : putF ("_changes" : Str) x (fl_Store v0 v1 v2 v3) = fl_Store v0 v1 v2 x := by unfold fl_Store; simp [putF, ne_Store_revision_oldest, ne_Store_revision__table, ne_Store_revision__changes, ne_Store_oldest_revision, ne_Store_oldest__table, ne_Store_oldest__changes, ne_Store__table_revision, ne_Store__table_oldest, ne_Store__table__changes, ne_Store__changes_revision, ne_Store__changes_oldest, ne_Store__changes__table, ne_Store_entry_revision, ne_Store_entry_oldest, ne_Store_entry__table, ne_Store_entry__changes, ne_Store_entries_revision, ne_Store_entries_oldest, ne_Store_entries__table, ne_Store_entries__changes, ne_Store_apply_revision, ne_Store_apply_oldest, ne_Store_apply__table, ne_Store_apply__changes, ne_Store__holds_revision, ne_Store__holds_oldest, ne_Store__holds__table, ne_Store__holds__changes, ne_Store__change_revision, ne_Store__change_oldest, ne_Store__change__table, ne_Store__change__changes, ne_Store_revision_oldest_p, ne_Store_revision__table_p, ne_Store_revision__changes_p, ne_Store_oldest_revision_p, ne_Store_oldest__table_p, ne_Store_oldest__changes_p, ne_Store__table_revision_p, ne_Store__table_oldest_p, ne_Store__table__changes_p, ne_Store__changes_revision_p, ne_Store__changes_oldest_p, ne_Store__changes__table_p, ne_Store_entry_revision_p, ne_Store_entry_oldest_p, ne_Store_entry__table_p, ne_Store_entry__changes_p, ne_Store_entries_revision_p, ne_Store_entries_oldest_p, ne_Store_entries__table_p, ne_Store_entries__changes_p, ne_Store_apply_revision_p, ne_Store_apply_oldest_p, ne_Store_apply__table_p, ne_Store_apply__changes_p, ne_Store__holds_revision_p, ne_Store__holds_oldest_p, ne_Store__holds__table_p, ne_Store__holds__changes_p, ne_Store__change_revision_p, ne_Store__change_oldest_p, ne_Store__change__table_p, ne_Store__change__changes_p]
theorem fl_Store_no_entry {v0 v1 v2 v3 : V} : (fl_Store v0 v1 v2 v3).lookup ("entry" : Str) = none := by unfold fl_Store; simp [List.lookup, ne_Store_revision_oldest, ne_Store_revision__table, ne_Store_revision__changes, ne_Store_oldest_revision, ne_Store_oldest__table, ne_Store_oldest__changes, ne_Store__table_revision, ne_Store__table_oldest, ne_Store__table__changes, ne_Store__changes_revision, ne_Store__changes_oldest, ne_Store__changes__table, ne_Store_entry_revision, ne_Store_entry_oldest, ne_Store_entry__table, ne_Store_entry__changes, ne_Store_entries_revision, ne_Store_entries_oldest, ne_Store_entries__table, ne_Store_entries__changes, ne_Store_apply_revision, ne_Store_apply_oldest, ne_Store_apply__table, ne_Store_apply__changes, ne_Store__holds_revision, ne_Store__holds_oldest, ne_Store__holds__table, ne_Store__holds__changes, ne_Store__change_revision, ne_Store__change_oldest, ne_Store__change__table, ne_Store__change__changes, ne_Store_revision_oldest_p, ne_Store_revision__table_p, ne_Store_revision__changes_p, ne_Store_oldest_revision_p, ne_Store_oldest__table_p, ne_Store_oldest__changes_p, ne_Store__table_revision_p, ne_Store__table_oldest_p, ne_Store__table__changes_p, ne_Store__changes_revision_p, ne_Store__changes_oldest_p, ne_Store__changes__table_p, ne_Store_entry_revision_p, ne_Store_entry_oldest_p, ne_Store_entry__table_p, ne_Store_entry__changes_p, ne_Store_entries_revision_p, ne_Store_entries_oldest_p, ne_Store_entries__table_p, ne_Store_entries__changes_p, ne_Store_apply_revision_p, ne_Store_apply_oldest_p, ne_Store_apply__table_p, ne_Store_apply__changes_p, ne_Store__holds_revision_p, ne_Store__holds_oldest_p, ne_Store__holds__table_p, ne_Store__holds__changes_p, ne_Store__change_revision_p, ne_Store__change_oldest_p, ne_Store__change__table_p, ne_Store__change__changes_p]
theorem fl_Store_no_entries {v0 v1 v2 v3 : V} : (fl_Store v0 v1 v2 v3).lookup ("entries" : Str) = none := by unfold fl_Store; simp [List.lookup, ne_Store_revision_oldest, ne_Store_revision__table, ne_Store_revision__changes, ne_Store_oldest_revision, ne_Store_oldest__table, ne_Store_oldest__changes, ne_Store__table_revision, ne_Store__table_oldest, ne_Store__table__changes, ne_Store__changes_revision, ne_Store__changes_oldest, ne_Store__changes__table, ne_Store_entry_revision, ne_Store_entry_oldest, ne_Store_entry__table, ne_Store_entry__changes, ne_Store_entries_revision, ne_Store_entries_oldest, ne_Store_entries__table, ne_Store_entries__changes, ne_Store_apply_revision, ne_Store_apply_oldest, ne_Store_apply__table, ne_Store_apply__changes, ne_Store__holds_revision, ne_Store__holds_oldest, ne_Store__holds__table, ne_Store__holds__changes, ne_Store__change_revision, ne_Store__change_oldest, ne_Store__change__table, ne_Store__change__changes, ne_Store_revision_oldest_p, ne_Store_revision__table_p, ne_Store_revision__changes_p, ne_Store_oldest_revision_p, ne_Store_oldest__table_p, ne_Store_oldest__changes_p, ne_Store__table_revision_p, ne_Store__table_oldest_p, ne_Store__table__changes_p, ne_Store__changes_revision_p, ne_Store__changes_oldest_p, ne_Store__changes__table_p, ne_Store_entry_revision_p, ne_Store_entry_oldest_p, ne_Store_entry__table_p, ne_Store_entry__changes_p, ne_Store_entries_revision_p, ne_Store_entries_oldest_p, ne_Store_entries__table_p, ne_Store_entries__changes_p, ne_Store_apply_revision_p, ne_Store_apply_oldest_p, ne_Store_apply__table_p, ne_Store_apply__changes_p, ne_Store__holds_revision_p, ne_Store__holds_oldest_p, ne_Store__holds__table_p, ne_Store__holds__changes_p, ne_Store__change_revision_p, ne_Store__change_oldest_p, ne_Store__change__table_p, ne_Store__change__changes_p]
theorem fl_Store_no_apply {v0 v1 v2 v3 : V} : (fl_Store v0 v1 v2 v3).lookup ("apply" : Str) = none := by unfold fl_Store; simp [List.lookup, ne_Store_revision_oldest, ne_Store_revision__table, ne_Store_revision__changes, ne_Store_oldest_revision, ne_Store_oldest__table, ne_Store_oldest__changes, ne_Store__table_revision, ne_Store__table_oldest, ne_Store__table__changes, ne_Store__changes_revision, ne_Store__changes_oldest, ne_Store__changes__table, ne_Store_entry_revision, ne_Store_entry_oldest, ne_Store_entry__table, ne_Store_entry__changes, ne_Store_entries_revision, ne_Store_entries_oldest, ne_Store_entries__table, ne_Store_entries__changes, ne_Store_apply_revision, ne_Store_apply_oldest, ne_Store_apply__table, ne_Store_apply__changes, ne_Store__holds_revision, ne_Store__holds_oldest, ne_Store__holds__table, ne_Store__holds__changes, ne_Store__change_revision, ne_Store__change_oldest, ne_Store__change__table, ne_Store__change__changes, ne_Store_revision_oldest_p, ne_Store_revision__table_p, ne_Store_revision__changes_p, ne_Store_oldest_revision_p, ne_Store_oldest__table_p, ne_Store_oldest__changes_p, ne_Store__table_revision_p, ne_Store__table_oldest_p, ne_Store__table__changes_p, ne_Store__changes_revision_p, ne_Store__changes_oldest_p, ne_Store__changes__table_p, ne_Store_entry_revision_p, ne_Store_entry_oldest_p, ne_Store_entry__table_p, ne_Store_entry__changes_p, ne_Store_entries_revision_p, ne_Store_entries_oldest_p, ne_Store_entries__table_p, ne_Store_entries__changes_p, ne_Store_apply_revision_p, ne_Store_apply_oldest_p, ne_Store_apply__table_p, ne_Store_apply__changes_p, ne_Store__holds_revision_p, ne_Store__holds_oldest_p, ne_Store__holds__table_p, ne_Store__holds__changes_p, ne_Store__change_revision_p, ne_Store__change_oldest_p, ne_Store__change__table_p, ne_Store__change__changes_p]
theorem fl_Store_no__holds {v0 v1 v2 v3 : V} : (fl_Store v0 v1 v2 v3).lookup ("_holds" : Str) = none := by unfold fl_Store; simp [List.lookup, ne_Store_revision_oldest, ne_Store_revision__table, ne_Store_revision__changes, ne_Store_oldest_revision, ne_Store_oldest__table, ne_Store_oldest__changes, ne_Store__table_revision, ne_Store__table_oldest, ne_Store__table__changes, ne_Store__changes_revision, ne_Store__changes_oldest, ne_Store__changes__table, ne_Store_entry_revision, ne_Store_entry_oldest, ne_Store_entry__table, ne_Store_entry__changes, ne_Store_entries_revision, ne_Store_entries_oldest, ne_Store_entries__table, ne_Store_entries__changes, ne_Store_apply_revision, ne_Store_apply_oldest, ne_Store_apply__table, ne_Store_apply__changes, ne_Store__holds_revision, ne_Store__holds_oldest, ne_Store__holds__table, ne_Store__holds__changes, ne_Store__change_revision, ne_Store__change_oldest, ne_Store__change__table, ne_Store__change__changes, ne_Store_revision_oldest_p, ne_Store_revision__table_p, ne_Store_revision__changes_p, ne_Store_oldest_revision_p, ne_Store_oldest__table_p, ne_Store_oldest__changes_p, ne_Store__table_revision_p, ne_Store__table_oldest_p, ne_Store__table__changes_p, ne_Store__changes_revision_p, ne_Store__changes_oldest_p, ne_Store__changes__table_p, ne_Store_entry_revision_p, ne_Store_entry_oldest_p, ne_Store_entry__table_p, ne_Store_entry__changes_p, ne_Store_entries_revision_p, ne_Store_entries_oldest_p, ne_Store_entries__table_p, ne_Store_entries__changes_p, ne_Store_apply_revision_p, ne_Store_apply_oldest_p, ne_Store_apply__table_p, ne_Store_apply__changes_p, ne_Store__holds_revision_p, ne_Store__holds_oldest_p, ne_Store__holds__table_p, ne_Store__holds__changes_p, ne_Store__change_revision_p, ne_Store__change_oldest_p, ne_Store__change__table_p, ne_Store__change__changes_p]
theorem fl_Store_no__change {v0 v1 v2 v3 : V} : (fl_Store v0 v1 v2 v3).lookup ("_change" : Str) = none := by unfold fl_Store; simp [List.lookup, ne_Store_revision_oldest, ne_Store_revision__table, ne_Store_revision__changes, ne_Store_oldest_revision, ne_Store_oldest__table, ne_Store_oldest__changes, ne_Store__table_revision, ne_Store__table_oldest, ne_Store__table__changes, ne_Store__changes_revision, ne_Store__changes_oldest, ne_Store__changes__table, ne_Store_entry_revision, ne_Store_entry_oldest, ne_Store_entry__table, ne_Store_entry__changes, ne_Store_entries_revision, ne_Store_entries_oldest, ne_Store_entries__table, ne_Store_entries__changes, ne_Store_apply_revision, ne_Store_apply_oldest, ne_Store_apply__table, ne_Store_apply__changes, ne_Store__holds_revision, ne_Store__holds_oldest, ne_Store__holds__table, ne_Store__holds__changes, ne_Store__change_revision, ne_Store__change_oldest, ne_Store__change__table, ne_Store__change__changes, ne_Store_revision_oldest_p, ne_Store_revision__table_p, ne_Store_revision__changes_p, ne_Store_oldest_revision_p, ne_Store_oldest__table_p, ne_Store_oldest__changes_p, ne_Store__table_revision_p, ne_Store__table_oldest_p, ne_Store__table__changes_p, ne_Store__changes_revision_p, ne_Store__changes_oldest_p, ne_Store__changes__table_p, ne_Store_entry_revision_p, ne_Store_entry_oldest_p, ne_Store_entry__table_p, ne_Store_entry__changes_p, ne_Store_entries_revision_p, ne_Store_entries_oldest_p, ne_Store_entries__table_p, ne_Store_entries__changes_p, ne_Store_apply_revision_p, ne_Store_apply_oldest_p, ne_Store_apply__table_p, ne_Store_apply__changes_p, ne_Store__holds_revision_p, ne_Store__holds_oldest_p, ne_Store__holds__table_p, ne_Store__holds__changes_p, ne_Store__change_revision_p, ne_Store__change_oldest_p, ne_Store__change__table_p, ne_Store__change__changes_p]
theorem fl_Store_new {v0 v1 v2 v3 : V} : putF ("_changes" : Str) v3 (putF ("_table" : Str) v2 (putF ("oldest" : Str) v1 (putF ("revision" : Str) v0 ([])))) = fl_Store v0 v1 v2 v3 := by unfold fl_Store; simp [putF, ne_Store_revision_oldest, ne_Store_revision__table, ne_Store_revision__changes, ne_Store_oldest_revision, ne_Store_oldest__table, ne_Store_oldest__changes, ne_Store__table_revision, ne_Store__table_oldest, ne_Store__table__changes, ne_Store__changes_revision, ne_Store__changes_oldest, ne_Store__changes__table, ne_Store_entry_revision, ne_Store_entry_oldest, ne_Store_entry__table, ne_Store_entry__changes, ne_Store_entries_revision, ne_Store_entries_oldest, ne_Store_entries__table, ne_Store_entries__changes, ne_Store_apply_revision, ne_Store_apply_oldest, ne_Store_apply__table, ne_Store_apply__changes, ne_Store__holds_revision, ne_Store__holds_oldest, ne_Store__holds__table, ne_Store__holds__changes, ne_Store__change_revision, ne_Store__change_oldest, ne_Store__change__table, ne_Store__change__changes, ne_Store_revision_oldest_p, ne_Store_revision__table_p, ne_Store_revision__changes_p, ne_Store_oldest_revision_p, ne_Store_oldest__table_p, ne_Store_oldest__changes_p, ne_Store__table_revision_p, ne_Store__table_oldest_p, ne_Store__table__changes_p, ne_Store__changes_revision_p, ne_Store__changes_oldest_p, ne_Store__changes__table_p, ne_Store_entry_revision_p, ne_Store_entry_oldest_p, ne_Store_entry__table_p, ne_Store_entry__changes_p, ne_Store_entries_revision_p, ne_Store_entries_oldest_p, ne_Store_entries__table_p, ne_Store_entries__changes_p, ne_Store_apply_revision_p, ne_Store_apply_oldest_p, ne_Store_apply__table_p, ne_Store_apply__changes_p, ne_Store__holds_revision_p, ne_Store__holds_oldest_p, ne_Store__holds__table_p, ne_Store__holds__changes_p, ne_Store__change_revision_p, ne_Store__change_oldest_p, ne_Store__change__table_p, ne_Store__change__changes_p]

/-! forms of data -/
def intIn (x : PyData) (lo hi : Int) : Bool := match x with
  | .int i => decide (lo ≤ i) && decide (i ≤ hi)
  | _ => false
def intOf : PyData → Int
  | .int i => i
  | _ => 0
def nameChs : Str := "abcdefghijklmnopqrstuvwxyz0123456789"
def digChs : Str := "0123456789"
def isNm : PyData → Bool
  | .str z => decide (1 ≤ z.length) && decide (z.length ≤ 12) && z.cps.toList.all fun c => decide (c ∈ nameChs.cps.toList)
  | _ => false
def plainCh (c : Nat) : Bool := decide (32 ≤ c) && decide (c ≤ 126) && !decide (c = 37)
def isTx : PyData → Bool
  | .str z => decide (z.length ≤ 40) && z.cps.toList.all plainCh
  | _ => false
def isCt (x : PyData) : Bool := intIn x 0 1000000000000
def isZo (x : PyData) : Bool := x.eqv (.str "") || isNm x
def isSl : PyData → Bool
  | .str z => decide (3 ≤ z.length) && (decide (z.cps.toList.getD (z.length - 1) 0 ∈ digChs.cps.toList) && (decide (z.cps.toList.getD (z.length - 2) 0 = 47) && isNm (.str (cutS z none (some (-2))))))
  | _ => false
def kindsD : List PyData := [.str "beat", .str "drain", .str "node", .str "note", .str "rollout", .str "service", .str "task"]
def statesD : List PyData := [.str "new", .str "bound", .str "running", .str "ended"]
def isKy (k n : PyData) : Bool := if k.eqv (.str "task") then isSl n else (kindsD.any fun z => z.eqv k) && isNm n
theorem z_len (z : Str) : z.cps.toList.length = z.length := by rw [Array.length_toList]; rfl
theorem cps_ix {z : Str} {j : Nat} (h1 : 1 ≤ j) (h2 : j ≤ z.length) : atI z.cps.toList (-(j : Int)) = some (z.cps.toList.getD (z.length - j) 0) := by
  have hl := z_len z
  unfold atI ixN
  rw [hl]
  rw [if_neg (by omega), if_pos (by omega)]
  have e : (-(j : Int) + (z.length : Int)).toNat = z.length - j := by omega
  rw [e]
  show z.cps.toList[z.length - j]? = _
  rw [List.getD_eq_getElem?_getD, List.getElem?_eq_getElem (by omega)]
  rfl
section
variable {P : Program} {w : World} {K : PySem.W.Frag} {mg : Str → Option Value} {base : Heap}
theorem ok_is_integer_within (T : TX K mg w) : FnOk P w K mg base CX0 1 T.a_is_integer_within T.d_is_integer_within ["number", "low", "high"] (spP K (P3 fun _ l h => ∃ lo hi, l = .int lo ∧ h = .int hi) (R3 fun x l h => .bool (intIn x (intOf l) (intOf h)))) := by
  refine okP T.F_is_integer_within sc_is_integer_within 0 rfl P3.len fun cdv A outer s H E hr => ⟨_, (pss_cons (ps_if (PW.pt (pw_or (pt_val (pe_callB (callK_isi (K := K) rfl) (by rfl) T.n_isinstance (by decide +kernel) (pa_cons (pv 0) (pa_cons (pe_bltn (v := .ty "bool") (u := .type "bool") (by rfl) T.n_bool (by decide +kernel) rfl) pa_nil)))) (pw_or1 (pt_not (pt_val (pe_callB (callK_isi (K := K) rfl) (by rfl) T.n_isinstance (by decide +kernel) (pa_cons (pv 0) (pa_cons (pe_bltn (v := .ty "int") (u := .type "int") (by rfl) T.n_int (by decide +kernel) rfl) pa_nil)))))))) (pss_one (ps_ret pe_bl)) pss_nil)
      (pss_one (ps_ret (pe_chain op_le op_le (pv 1) (pv 0) (pv 2))))), fun ds hd => ?_⟩
  obtain ⟨x, l, h, rfl, lo, hi, rfl, rfl⟩ := hd
  walk_at "pn"
  cases x
  case int i =>
    walk_at "px"
    walk_at "pi"
    · intro hh
      walk_at "px"
      refine r3d ?_
      show _ = PyData.bool (decide (lo ≤ i) && decide (i ≤ hi))
      rw [decide_eq_true hh, Bool.true_and]
    · intro hh
      refine r3d ?_
      show _ = PyData.bool (decide (lo ≤ i) && decide (i ≤ hi))
      rw [decide_eq_false hh, Bool.false_and]
  all_goals walk_at "px"
  all_goals walk_at "pr"
theorem ok_is_count (T : TX K mg w) : FnOk P w K mg base CX0 2 T.a_is_count T.d_is_count ["number"] (spP K (P1 fun _ => True) (R1 fun x => .bool (isCt x))) := by
  refine okP T.F_is_count sc_is_count 0 rfl P1.len fun cdv A outer s H E hr => ⟨_, (pss_one (ps_ret (pe_call (ok_is_integer_within T) (hr.mono (by decide)) (by rfl) T.g_is_integer_within T.F_is_integer_within.kp T.b_is_integer_within .nil pass0 (pa_cons (pv 0) (pa_cons pe_int (pa_cons (pe_glob (v := .int 1000000000000) (by rfl) T.c_MOST_COUNT ⟨_, rfl⟩) pa_nil)))))), fun ds hd => ?_⟩
  obtain ⟨x, rfl, _⟩ := hd
  walk_at "pn"
  walk_at "px"
  walk_at "pr"
theorem ok_is_plain_name (T : TX K mg w) : FnOk P w K mg base CX0 1 T.a_is_plain_name T.d_is_plain_name ["name"] (spP K (P1 fun x => okx 8 x = true) (R1 fun x => .bool (isNm x))) := by
  refine okP T.F_is_plain_name sc_is_plain_name 1 rfl P1.len fun cdv A outer s H E hr => ⟨_, (pss_cons (ps_if (PW.pt (pw_or (pt_not (pt_val (pe_callB (callK_isi (K := K) rfl) (by rfl) T.n_isinstance (by decide +kernel) (pa_cons (pv 0) (pa_cons (pe_bltn (v := .ty "str") (u := .type "str") (by rfl) T.n_str (by decide +kernel) rfl) pa_nil))))) (pw_or1 (pt_not (pt_chain op_le op_le pe_int (pe_callB call_lenS (by rfl) T.n_len PySem.boot_len (pa_cons (pv 0) pa_nil)) (pe_glob (v := .int 12) (by rfl) T.c_MOST_NAME ⟨_, rfl⟩)))))) (pss_one (ps_ret pe_bl)) pss_nil)
      (pss_one (ps_ret (pe_callB (callK_all (K := K) rfl rfl) (by rfl) T.n_all (by decide +kernel) (pa_cons (pe_lc (own := [("character", 1)]) (g := gName 1) (tt := tYes) (by rfl) sc_is_plain_name.nd (pi_str (pv 0)) (blkOk_by (own := [("character", 1)]) (N := ["name", "character"]) (sc := defScope s_is_plain_name) (by decide +kernel)) (fun _ _ _ _ _ => pg_name (i := 1) sc_is_plain_name.nd rfl (Or.inl rfl)) (fun _ _ _ _ _ => pts_nil) (fun _ _ _ _ _ => (pe_cmpR op_inS (pv 1) (pe_glob (v := .str "abcdefghijklmnopqrstuvwxyz0123456789") (by rfl) T.c_NAME_CHARACTERS ⟨_, rfl⟩) rfl))) pa_nil))))), fun ds hd => ?_⟩
  obtain ⟨x, rfl, hx⟩ := hd
  walk_at "pn"
  cases x
  case str z =>
    walk_at "px"
    walk_at "pi"
    · intro h1
      walk_at "px"
      walk_at "pi"
      · intro h2
        walk_at "px"
        refine r1d ?_
        show _ = PyData.bool (decide (1 ≤ z.length) && decide (z.length ≤ 12) && _)
        rw [decide_eq_false (show ¬ z.length ≤ 12 by omega), Bool.and_false, Bool.false_and]
      · intro h2
        walk_at "px"
        refine we_lcM (by walk_at "ww") rfl ?_
        walk_at "px"
        refine ⟨fun x => .bool (decide (chOf x ∈ nameChs.cps.toList)), by rw [sgn_len]; omega, fun x hx => ?_, ?_⟩
        · obtain ⟨c, rfl, hc⟩ := signs_mem hx
          walk_at "pn"
          walk_at "px"
          exact rfl
        · walk_at "px"
          refine cbP_all (bs := z.cps.toList.map fun c => decide (c ∈ nameChs.cps.toList)) (by rw [signs_map, List.map_map]; rfl) (r1d ?_)
          rw [all_map_id]
          show _ = PyData.bool (decide (1 ≤ z.length) && decide (z.length ≤ 12) && _)
          rw [decide_eq_true (show z.length ≤ 12 by omega), decide_eq_true (show 1 ≤ z.length by omega)]
          rfl
    · intro h1
      walk_at "px"
      refine r1d ?_
      show _ = PyData.bool (decide (1 ≤ z.length) && decide (z.length ≤ 12) && _)
      rw [decide_eq_false (show ¬ 1 ≤ z.length by omega), Bool.false_and, Bool.false_and]
  all_goals walk_at "px"
  all_goals walk_at "pr"
end
section
variable {P : Program} {w : World} {K : PySem.W.Frag} {mg : Str → Option Value} {base : Heap}
theorem ok_has_plain_characters (T : TX K mg w) : FnOk P w K mg base CX0 1 T.a_has_plain_characters T.d_has_plain_characters ["text"] (spP K (P1 fun x => ∃ z, x = .str z ∧ z.length ≤ 100000) (R1 fun x => .bool (match x with | .str z => z.cps.toList.all plainCh | _ => false))) := by
  refine okP T.F_has_plain_characters sc_has_plain_characters 2 rfl P1.len fun cdv A outer s H E hr => ⟨_, (pss_cons (ps_for PassesOwn.never rfl (pi_str (pv 0)) (pg_name (i := 1) sc_has_plain_characters.nd rfl (Or.inl rfl))
        (pss_cons (ps_set (i := 2) sc_has_plain_characters.nd rfl (Or.inl rfl) (pe_callB call_ordN (by rfl) T.n_ord (by decide +kernel) (pa_cons (pv 1) pa_nil)))
        (pss_one (ps_if (PW.pt (pw_or (pt_cmpR op_lt (pv 2) (pe_glob (v := .int 32) (by rfl) T.c_SPACE ⟨_, rfl⟩) (nomark _)) (pw_or (pt_cmpR op_gt (pv 2) (pe_glob (v := .int 126) (by rfl) T.c_TILDE ⟨_, rfl⟩) (nomark _)) (pw_or1 (pt_cmpR op_eq (pv 2) (pe_glob (v := .int 37) (by rfl) T.c_PERCENT ⟨_, rfl⟩) (nomark _)))))) (pss_one (ps_ret pe_bl)) pss_nil))))
      (pss_one (ps_ret pe_bl))), fun ds hd => ?_⟩
  obtain ⟨x, rfl, z, rfl, hz⟩ := hd
  walk_at "pn"
  walk_at "px"
  refine ws_for ?_
  walk_at "px"
  refine ⟨Unit, fun _ => [.d (.str z), .u, .u], fun _ => (), fun i _ => (z.cps.toList.take i).all plainCh = true, nxt () ⟨.inl rfl, .inl rfl, .inl rfl, True.intro⟩ rfl rfl, fun i x _ hx hI => ?_, fun _ hI => ?_⟩
  · obtain ⟨c, rfl, hc⟩ := signs_mem (List.mem_of_getElem? hx)
    have hc' : z.cps.toList[i]? = some c := by
      unfold signs at hx
      rw [List.getElem?_map] at hx
      cases h : z.cps.toList[i]? with
      | none => rw [h] at hx; cases hx
      | some d => rw [h] at hx; cases hx; rfl
    walk_at "px"
    have hf : plainCh c = false → z.cps.toList.all plainCh = false := fun h => by
      rw [Bool.eq_false_iff]
      intro h2
      rw [List.all_eq_true] at h2
      rw [h2 c hc] at h
      cases h
    have ht : plainCh c = true → (z.cps.toList.take (i + 1)).all plainCh = true := fun h => by
      rw [take_succ_app hc', List.all_append, hI]
      simp [h]
    walk_at "pi"
    · intro h1
      walk_at "px"
      walk_at "pi"
      · intro h2
        walk_at "px"
        walk_at "pi"
        · intro h3
          walk_at "px"
          refine r1d ?_
          exact congrArg PyData.bool (hf (by unfold plainCh; simp; omega)).symm
        · intro h3
          walk_at "px"
          exact nxt () (by walk_at "wk") rfl (ht (by unfold plainCh; simp; omega))
      · intro h2
        walk_at "px"
        refine r1d ?_
        exact congrArg PyData.bool (hf (by unfold plainCh; simp; omega)).symm
    · intro h1
      walk_at "px"
      refine r1d ?_
      exact congrArg PyData.bool (hf (by unfold plainCh; simp; omega)).symm
  · walk_at "px"
    refine r1d ?_
    have hI' : (z.cps.toList.take (signs z).length).all plainCh = true := hI
    rw [sgn_len, List.take_of_length_le (by rw [z_len]; exact Nat.le_refl _)] at hI'
    exact congrArg PyData.bool hI'.symm
theorem ok_is_text (T : TX K mg w) : FnOk P w K mg base CX0 2 T.a_is_text T.d_is_text ["text"] (spP K (P1 fun x => okx 8 x = true) (R1 fun x => .bool (isTx x))) := by
  refine okP T.F_is_text sc_is_text 0 rfl P1.len fun cdv A outer s H E hr => ⟨_, (pss_one (ps_ret (pe_and (pe_callB (callK_isi (K := K) rfl) (by rfl) T.n_isinstance (by decide +kernel) (pa_cons (pv 0) (pa_cons (pe_bltn (v := .ty "str") (u := .type "str") (by rfl) T.n_str (by decide +kernel) rfl) pa_nil))) (pe_and (pe_cmpR op_le (pe_callB call_lenS (by rfl) T.n_len PySem.boot_len (pa_cons (pv 0) pa_nil)) (pe_glob (v := .int 40) (by rfl) T.c_MOST_TEXT ⟨_, rfl⟩) (nomark _)) (pe_one (pe_call (ok_has_plain_characters T) (hr.mono (by decide)) (by rfl) T.g_has_plain_characters T.F_has_plain_characters.kp T.b_has_plain_characters .nil pass0 (pa_cons (pv 0) pa_nil))))))), fun ds hd => ?_⟩
  obtain ⟨x, rfl, hx⟩ := hd
  walk_at "pn"
  cases x
  case str z =>
    have hz := (okx_str hx).1
    walk_at "px"
    walk_at "pi"
    · intro h1
      walk_at "px"
      refine r1d ?_
      show _ = PyData.bool (decide (z.length ≤ 40) && z.cps.toList.all plainCh)
      rw [decide_eq_true (show z.length ≤ 40 by omega), Bool.true_and]
    · intro h1
      refine r1d ?_
      show _ = PyData.bool (decide (z.length ≤ 40) && z.cps.toList.all plainCh)
      rw [decide_eq_false (show ¬ z.length ≤ 40 by omega), Bool.false_and]
  all_goals walk_at "px"
  all_goals walk_at "pr"
theorem ok_is_zone (T : TX K mg w) : FnOk P w K mg base CX0 2 T.a_is_zone T.d_is_zone ["zone"] (spP K (P1 fun x => okx 8 x = true) (R1 fun x => .bool (isZo x))) := by
  refine okP T.F_is_zone sc_is_zone 0 rfl P1.len fun cdv A outer s H E hr => ⟨_, (pss_one (ps_ret (pe_or (pe_cmpR (opK_eqD (K := K) rfl hr.units) (pv 0) pe_str (nomark _)) (pe_one (pe_call (ok_is_plain_name T) (hr.mono (by decide)) (by rfl) T.g_is_plain_name T.F_is_plain_name.kp T.b_is_plain_name .nil pass0 (pa_cons (pv 0) pa_nil)))))), fun ds hd => ?_⟩
  obtain ⟨x, rfl, hx⟩ := hd
  walk_at "pn"
  walk_at "px"
  walk_at "pi"
  · intro h1
    walk_at "px"
    refine r1d ?_
    unfold isZo
    rw [h1, Bool.false_or]
  · intro h1
    refine r1d ?_
    unfold isZo
    rw [h1, Bool.true_or]
theorem sign47 {c : Nat} : decide ((⟨#[c]⟩ : Str) = "/") = decide (c = 47) := by
  rw [Bool.eq_iff_iff, decide_eq_true_iff, decide_eq_true_iff]
  have : ("/" : Str) = ⟨#[47]⟩ := by decide +kernel
  rw [this]
  constructor
  · intro h; cases h; rfl
  · intro h; rw [h]
theorem okx_cut {n : Nat} {z : Str} {lo hi : Option Int} (h : okx n (.str z) = true) : okx n (.str (cutS z lo hi)) = true := by
  obtain ⟨h1, h2⟩ := okx_str h
  unfold okx
  rw [Bool.and_eq_true]
  refine ⟨?_, decide_eq_true ?_⟩
  · unfold PyData.strOk at h2 ⊢
    unfold cutS
    rw [← Array.all_toList, List.all_eq_true] at h2 ⊢
    intro c hc
    refine h2 c ?_
    exact List.mem_of_mem_drop (List.mem_of_mem_take (by simpa using hc))
  · unfold cutS
    have h3 : z.cps.size ≤ 100000 := h1
    show (Array.size _) ≤ _
    simp
    omega
theorem ok_is_slot_name (T : TX K mg w) : FnOk P w K mg base CX0 2 T.a_is_slot_name T.d_is_slot_name ["name"] (spP K (P1 fun x => okx 8 x = true) (R1 fun x => .bool (isSl x))) := by
  refine okP T.F_is_slot_name sc_is_slot_name 0 rfl P1.len fun cdv A outer s H E hr => ⟨_, (pss_cons (ps_if (PW.pt (pw_or (pt_not (pt_val (pe_callB (callK_isi (K := K) rfl) (by rfl) T.n_isinstance (by decide +kernel) (pa_cons (pv 0) (pa_cons (pe_bltn (v := .ty "str") (u := .type "str") (by rfl) T.n_str (by decide +kernel) rfl) pa_nil))))) (pw_or1 (pt_cmpR op_lt (pe_callB call_lenS (by rfl) T.n_len PySem.boot_len (pa_cons (pv 0) pa_nil)) pe_int (nomark _))))) (pss_one (ps_ret pe_bl)) pss_nil)
      (pss_one (ps_ret (pe_and (pe_cmpR op_inS (pe_ix ix_str (pv 0) (pe_un un_neg pe_int) (fun _ _ => rfl)) (pe_glob (v := .str "0123456789") (by rfl) T.c_DIGITS ⟨_, rfl⟩) rfl) (pe_and (pe_cmpR op_eq (pe_ix ix_str (pv 0) (pe_un un_neg pe_int) (fun _ _ => rfl)) pe_str (nomark _)) (pe_one (pe_call (ok_is_plain_name T) (hr.mono (by decide)) (by rfl) T.g_is_plain_name T.F_is_plain_name.kp T.b_is_plain_name .nil pass0 (pa_cons (pe_slice sl_str (pv 0) po_none (po_some (pe_un un_neg pe_int))) pa_nil)))))))), fun ds hd => ?_⟩
  obtain ⟨x, rfl, hx⟩ := hd
  walk_at "pn"
  cases x
  case str z =>
    have hz := (okx_str hx).1
    walk_at "px"
    walk_at "pi"
    · intro h1
      walk_at "px"
      refine r1d ?_
      show _ = PyData.bool (decide (3 ≤ z.length) && _)
      rw [decide_eq_false (show ¬ 3 ≤ z.length by omega), Bool.false_and]
    · intro h1
      walk_at "px"
      refine opP_ixS (My.sz hz) (cps_ix (j := 1) (by omega) (by omega)) ?_
      walk_at "px"
      have e : isSl (.str z) = (decide (z.cps.toList.getD (z.length - 1) 0 ∈ digChs.cps.toList) && (decide (z.cps.toList.getD (z.length - 2) 0 = 47) && isNm (.str (cutS z none (some (-2)))))) := by
        show (decide (3 ≤ z.length) && _) = _
        rw [decide_eq_true (show 3 ≤ z.length by omega), Bool.true_and]
      walk_at "pi"
      · intro h2
        walk_at "px"
        refine opP_ixS (My.sz hz) (cps_ix (j := 2) (by omega) (by omega)) ?_
        walk_at "px"
        rw [sign47]
        walk_at "pi"
        · intro h3
          walk_at "px"
          refine ⟨okx_cut hx, r1d ?_⟩
          rw [e, decide_eq_true (show _ ∈ digChs.cps.toList from h2), decide_eq_true h3]
          rfl
        · intro h3
          refine r1d ?_
          rw [e, decide_eq_false h3, Bool.false_and, Bool.and_false]
      · intro h2
        refine r1d ?_
        rw [e, decide_eq_false (show ¬ _ ∈ digChs.cps.toList from h2), Bool.false_and]
  all_goals walk_at "px"
  all_goals walk_at "pr"
theorem ok_is_key (T : TX K mg w) : FnOk P w K mg base CX0 3 T.a_is_key T.d_is_key ["kind", "name"] (spP K (P2 fun k n => okx 8 k = true ∧ okx 8 n = true) (R2' fun k n => .bool (isKy k n))) := by
  refine okP T.F_is_key sc_is_key 0 rfl P2.len fun cdv A outer s H E hr => ⟨_, (pss_cons (ps_if (pt_cmpR (opK_eqD (K := K) rfl hr.units) (pv 0) pe_str (nomark _)) (pss_one (ps_ret (pe_call (ok_is_slot_name T) (hr.mono (by decide)) (by rfl) T.g_is_slot_name T.F_is_slot_name.kp T.b_is_slot_name .nil pass0 (pa_cons (pv 1) pa_nil)))) pss_nil)
      (pss_one (ps_ret (pe_and (pe_cmpR (opK_inT (K := K) rfl (hu65 hr)) (pv 0) (pe_glob (v := .ref T.ca_KINDS) (by rfl) T.c_KINDS rfl) rfl) (pe_one (pe_call (ok_is_plain_name T) (hr.mono (by decide)) (by rfl) T.g_is_plain_name T.F_is_plain_name.kp T.b_is_plain_name .nil pass0 (pa_cons (pv 1) pa_nil))))))), fun ds hd => ?_⟩
  obtain ⟨k, n, rfl, hk, hn⟩ := hd
  walk_at "pn"
  walk_at "px"
  walk_at "pi"
  · intro h1
    walk_at "px"
    refine r2d ?_
    unfold isKy
    rw [if_pos h1]
  · intro h1
    walk_at "px"
    refine we_cT T.q_KINDS rfl ?_
    walk_at "px"
    have e : isKy k n = ((kindsD.any fun z => z.eqv k) && isNm n) := by
      unfold isKy
      rw [if_neg (by rw [h1]; exact Bool.false_ne_true)]
    walk_at "pi"
    · intro h2
      walk_at "px"
      refine r2d ?_
      rw [e, show (kindsD.any fun z => z.eqv k) = true from h2, Bool.true_and]
    · intro h2
      refine r2d ?_
      rw [e, show (kindsD.any fun z => z.eqv k) = false from h2, Bool.false_and]
end
/-! the forms of values -/
def openFrom (least : Int) : List PyData → Bool
  | [] => true
  | x :: xs => intIn x least 9 && openFrom (intOf x + 1) xs
def isOpN : PyData → Bool
  | .tuple xs => openFrom 0 xs
  | _ => false
def fBeat : PyData → Bool
  | .tuple [a, b] => isCt a && isCt b
  | _ => false
def fDrain : PyData → Bool
  | .tuple [a] => isTx a
  | _ => false
def fNode : PyData → Bool
  | .tuple [a, b, c, d, e] => isCt a && (isCt b && (isCt c && (intIn d 0 1 && isZo e)))
  | _ => false
def fNote : PyData → Bool
  | .tuple [a, b, c, d] => isTx a && (isCt d && ((b.eqv c && c.eqv (.str "")) || isKy b c))
  | _ => false
def fRollout : PyData → Bool
  | .tuple [a, b] => isCt a && isOpN b
  | _ => false
def fService : PyData → Bool
  | .tuple [a, b, c, d, e] => intIn a 0 9 && (intIn d 1 9 && (isTx b && (isCt c && isZo e)))
  | _ => false
def fTask : PyData → Bool
  | .tuple [a, b, c, d, e, f, g, h] => isCt a && (isCt c && (isCt g && (isTx b && (isZo f && (isZo h && ((statesD.any fun z => z.eqv d) && intIn e 0 1))))))
  | _ => false
abbrev preTup : PyData → Prop := fun x => ∃ xs, x = .tuple xs ∧ okx 8 (.tuple xs) = true
section
variable {P : Program} {w : World} {K : PySem.W.Frag} {mg : Str → Option Value} {base : Heap}
theorem ok__is_beat (T : TX K mg w) : FnOk P w K mg base CX0 3 T.a__is_beat T.d__is_beat ["value"] (spP K (P1 preTup) (R1 fun x => .bool (fBeat x))) := by
  refine okP T.F__is_beat sc__is_beat 0 rfl P1.len fun cdv A outer s H E hr => ⟨_, (pss_cons (ps_if (pt_cmpR op_ne (pe_callB (callK_len (K := K) rfl) (by rfl) T.n_len PySem.boot_len (pa_cons (pv 0) pa_nil)) pe_int (nomark _)) (pss_one (ps_ret pe_bl)) pss_nil)
      (pss_one (ps_ret (pe_and (pe_call (ok_is_count T) (hr.mono (by decide)) (by rfl) T.g_is_count T.F_is_count.kp T.b_is_count .nil pass0 (pa_cons (pe_ix (ixK_tup (K := K) rfl) (pv 0) pe_int (fun _ _ => rfl)) pa_nil)) (pe_one (pe_call (ok_is_count T) (hr.mono (by decide)) (by rfl) T.g_is_count T.F_is_count.kp T.b_is_count .nil pass0 (pa_cons (pe_ix (ixK_tup (K := K) rfl) (pv 0) pe_int (fun _ _ => rfl)) pa_nil))))))), fun ds hd => ?_⟩
  obtain ⟨x, rfl, xs, rfl, hx⟩ := hd
  walk_at "pn"
  match xs, hx with
  | [a, b], hx =>
    walk_at "px"
    walk_at "pi"
    · intro h1
      walk_at "px"
      refine r1d ?_
      show _ = PyData.bool (isCt a && isCt b)
      rw [h1, Bool.true_and]
    · intro h1
      refine r1d ?_
      show _ = PyData.bool (isCt a && isCt b)
      rw [h1, Bool.false_and]
  | [], hx =>
    walk_at "px"
    walk_at "pr"
  | [a], hx =>
    walk_at "px"
    walk_at "pr"
  | a :: b :: c :: r, hx =>
    walk_at "px"
    walk_at "pr"
theorem ok__is_drain (T : TX K mg w) : FnOk P w K mg base CX0 3 T.a__is_drain T.d__is_drain ["value"] (spP K (P1 preTup) (R1 fun x => .bool (fDrain x))) := by
  refine okP T.F__is_drain sc__is_drain 0 rfl P1.len fun cdv A outer s H E hr => ⟨_, (pss_one (ps_ret (pe_and (pe_cmpR op_eq (pe_callB (callK_len (K := K) rfl) (by rfl) T.n_len PySem.boot_len (pa_cons (pv 0) pa_nil)) pe_int (nomark _)) (pe_one (pe_call (ok_is_text T) (hr.mono (by decide)) (by rfl) T.g_is_text T.F_is_text.kp T.b_is_text .nil pass0 (pa_cons (pe_ix (ixK_tup (K := K) rfl) (pv 0) pe_int (fun _ _ => rfl)) pa_nil)))))), fun ds hd => ?_⟩
  obtain ⟨x, rfl, xs, rfl, hx⟩ := hd
  walk_at "pn"
  match xs, hx with
  | [a], hx =>
    have ha := okx_tup hx (x := a) (by simp)
    walk_at "px"
    walk_at "pr"
  | [], hx =>
    walk_at "px"
    walk_at "pr"
  | a :: b :: r, hx =>
    walk_at "px"
    walk_at "pr"
theorem ok__is_node (T : TX K mg w) : FnOk P w K mg base CX0 3 T.a__is_node T.d__is_node ["value"] (spP K (P1 preTup) (R1 fun x => .bool (fNode x))) := by
  refine okP T.F__is_node sc__is_node 5 rfl P1.len fun cdv A outer s H E hr => ⟨_, (pss_cons (ps_if (pt_cmpR op_ne (pe_callB (callK_len (K := K) rfl) (by rfl) T.n_len PySem.boot_len (pa_cons (pv 0) pa_nil)) pe_int (nomark _)) (pss_one (ps_ret pe_bl)) pss_nil)
      (pss_cons (ps_asg (pv 0) (pgK_tup (K := K) (n := 5) rfl rfl (pgs_cons (pg_name (i := 1) sc__is_node.nd rfl (Or.inl rfl)) (pgs_cons (pg_name (i := 2) sc__is_node.nd rfl (Or.inl rfl)) (pgs_cons (pg_name (i := 3) sc__is_node.nd rfl (Or.inl rfl)) (pgs_cons (pg_name (i := 4) sc__is_node.nd rfl (Or.inl rfl)) (pgs_cons (pg_name (i := 5) sc__is_node.nd rfl (Or.inl rfl)) pgs_nil)))))))
      (pss_one (ps_ret (pe_and (pe_call (ok_is_count T) (hr.mono (by decide)) (by rfl) T.g_is_count T.F_is_count.kp T.b_is_count .nil pass0 (pa_cons (pv 1) pa_nil)) (pe_and (pe_call (ok_is_count T) (hr.mono (by decide)) (by rfl) T.g_is_count T.F_is_count.kp T.b_is_count .nil pass0 (pa_cons (pv 2) pa_nil)) (pe_and (pe_call (ok_is_count T) (hr.mono (by decide)) (by rfl) T.g_is_count T.F_is_count.kp T.b_is_count .nil pass0 (pa_cons (pv 3) pa_nil)) (pe_and (pe_call (ok_is_integer_within T) (hr.mono (by decide)) (by rfl) T.g_is_integer_within T.F_is_integer_within.kp T.b_is_integer_within .nil pass0 (pa_cons (pv 4) (pa_cons pe_int (pa_cons pe_int pa_nil)))) (pe_one (pe_call (ok_is_zone T) (hr.mono (by decide)) (by rfl) T.g_is_zone T.F_is_zone.kp T.b_is_zone .nil pass0 (pa_cons (pv 5) pa_nil))))))))))), fun ds hd => ?_⟩
  obtain ⟨x, rfl, xs, rfl, hx⟩ := hd
  walk_at "pn"
  by_cases hl : xs.length = 5
  · match xs, hl with
    | [a, b, c, d, e], _ =>
      have he := okx_tup hx (x := e) (by simp)
      walk_at "pw"
      all_goals (refine r1d ?_; show _ = PyData.bool (fNode (.tuple [a, b, c, d, e])); simp_all [fNode, intOf])
  · have e : fNode (.tuple xs) = false := by
      unfold fNode
      split
      · rename_i h; injection h with h; rw [h] at hl; simp at hl
      · rfl
    walk_at "pw"
    refine r1d ?_
    rw [e]
theorem ok__are_open_numbers (T : TX K mg w) : FnOk P w K mg base CX0 2 T.a__are_open_numbers T.d__are_open_numbers ["numbers"] (spP K (P1 fun x => okx 8 x = true) (R1 fun x => .bool (isOpN x))) := by
  refine okP T.F__are_open_numbers sc__are_open_numbers 2 rfl P1.len fun cdv A outer s H E hr => ⟨_, (pss_cons (ps_if (pt_not (pt_val (pe_callB (callK_isi (K := K) rfl) (by rfl) T.n_isinstance (by decide +kernel) (pa_cons (pv 0) (pa_cons (pe_bltn (v := .ty "tuple") (u := .type "tuple") (by rfl) T.n_tuple (by decide +kernel) rfl) pa_nil))))) (pss_one (ps_ret pe_bl)) pss_nil)
      (pss_cons (ps_set (i := 1) sc__are_open_numbers.nd rfl (Or.inl rfl) pe_int)
      (pss_cons (ps_for PassesOwn.never rfl (piK_tup (K := K) rfl (pv 0)) (pg_name (i := 2) sc__are_open_numbers.nd rfl (Or.inl rfl))
        (pss_cons (ps_if (pt_not (ptK_truth (K := K) rfl (pe_call (ok_is_integer_within T) (hr.mono (by decide)) (by rfl) T.g_is_integer_within T.F_is_integer_within.kp T.b_is_integer_within .nil pass0 (pa_cons (pv 2) (pa_cons (pv 1) (pa_cons (pe_glob (v := .int 9) (by rfl) T.c_MOST_NUMBER ⟨_, rfl⟩) pa_nil)))) (by intro _; rfl))) (pss_one (ps_ret pe_bl)) pss_nil)
        (pss_one (ps_set (i := 1) sc__are_open_numbers.nd rfl (Or.inl rfl) (pe_op op_add (pv 2) pe_int)))))
      (pss_one (ps_ret pe_bl))))), fun ds hd => ?_⟩
  obtain ⟨x, rfl, hx⟩ := hd
  walk_at "pn"
  cases x
  case tuple xs =>
    walk_at "px"
    refine ws_for ?_
    walk_at "px"
    refine ⟨Int, fun l => [.d (.tuple xs), .d (.int l), .u], fun _ => (), fun i l => openFrom 0 xs = openFrom l (xs.drop i), nxt 0 (by walk_at "wk") rfl rfl, fun i x l hx hI => ?_, fun l hI => ?_⟩
    · have hd : xs.drop i = x :: xs.drop (i + 1) := by
        have hi := (List.getElem?_eq_some_iff.mp hx)
        rw [List.drop_eq_getElem_cons hi.1, hi.2]
      have hI' : openFrom 0 xs = (intIn x l 9 && openFrom (intOf x + 1) (xs.drop (i + 1))) := by rw [show openFrom 0 xs = _ from hI, hd]; rfl
      have hf : intIn x l 9 = false → isOpN (.tuple xs) = false := fun h => by
        show openFrom 0 xs = false
        rw [hI', h, Bool.false_and]
      cases x
      case int j =>
        walk_at "px"
        walk_at "pi"
        · intro h1
          walk_at "px"
          exact r1d (congrArg PyData.bool (hf h1).symm)
        · intro h1
          walk_at "px"
          exact nxt (j + 1) (by walk_at "wk") rfl (by show openFrom 0 xs = _; rw [hI', show intIn (.int j) l 9 = true from h1, Bool.true_and]; rfl)
      all_goals walk_at "px"
      all_goals exact r1d (congrArg PyData.bool (hf rfl).symm)
    · have hI' : openFrom 0 xs = openFrom l (xs.drop xs.length) := hI
      rw [List.drop_length] at hI'
      walk_at "px"
      exact r1d (congrArg PyData.bool hI'.symm)
  all_goals walk_at "px"
  all_goals walk_at "pr"
theorem ok__is_rollout (T : TX K mg w) : FnOk P w K mg base CX0 3 T.a__is_rollout T.d__is_rollout ["value"] (spP K (P1 preTup) (R1 fun x => .bool (fRollout x))) := by
  refine okP T.F__is_rollout sc__is_rollout 0 rfl P1.len fun cdv A outer s H E hr => ⟨_, (pss_one (ps_ret (pe_and (pe_cmpR op_eq (pe_callB (callK_len (K := K) rfl) (by rfl) T.n_len PySem.boot_len (pa_cons (pv 0) pa_nil)) pe_int (nomark _)) (pe_and (pe_call (ok_is_count T) (hr.mono (by decide)) (by rfl) T.g_is_count T.F_is_count.kp T.b_is_count .nil pass0 (pa_cons (pe_ix (ixK_tup (K := K) rfl) (pv 0) pe_int (fun _ _ => rfl)) pa_nil)) (pe_one (pe_call (ok__are_open_numbers T) (hr.mono (by decide)) (by rfl) T.g__are_open_numbers T.F__are_open_numbers.kp T.b__are_open_numbers .nil pass0 (pa_cons (pe_ix (ixK_tup (K := K) rfl) (pv 0) pe_int (fun _ _ => rfl)) pa_nil))))))), fun ds hd => ?_⟩
  obtain ⟨x, rfl, xs, rfl, hx⟩ := hd
  walk_at "pn"
  by_cases hl : xs.length = 2
  · match xs, hl with
    | [a, b], _ =>
      have hb := okx_tup hx (x := b) (by simp)
      walk_at "pw"
      all_goals (refine r1d ?_; show _ = PyData.bool (fRollout (.tuple [a, b])); simp_all [fRollout, intOf])
  · have e : fRollout (.tuple xs) = false := by
      unfold fRollout
      split
      · rename_i h; injection h with h; rw [h] at hl; simp at hl
      · rfl
    walk_at "pw"
    refine r1d ?_
    rw [e]
theorem ok__is_service (T : TX K mg w) : FnOk P w K mg base CX0 3 T.a__is_service T.d__is_service ["value"] (spP K (P1 preTup) (R1 fun x => .bool (fService x))) := by
  refine okP T.F__is_service sc__is_service 5 rfl P1.len fun cdv A outer s H E hr => ⟨_, (pss_cons (ps_if (pt_cmpR op_ne (pe_callB (callK_len (K := K) rfl) (by rfl) T.n_len PySem.boot_len (pa_cons (pv 0) pa_nil)) pe_int (nomark _)) (pss_one (ps_ret pe_bl)) pss_nil)
      (pss_cons (ps_asg (pv 0) (pgK_tup (K := K) (n := 5) rfl rfl (pgs_cons (pg_name (i := 1) sc__is_service.nd rfl (Or.inl rfl)) (pgs_cons (pg_name (i := 2) sc__is_service.nd rfl (Or.inl rfl)) (pgs_cons (pg_name (i := 3) sc__is_service.nd rfl (Or.inl rfl)) (pgs_cons (pg_name (i := 4) sc__is_service.nd rfl (Or.inl rfl)) (pgs_cons (pg_name (i := 5) sc__is_service.nd rfl (Or.inl rfl)) pgs_nil)))))))
      (pss_cons (ps_if (PW.pt (pw_or (pt_not (ptK_truth (K := K) rfl (pe_call (ok_is_integer_within T) (hr.mono (by decide)) (by rfl) T.g_is_integer_within T.F_is_integer_within.kp T.b_is_integer_within .nil pass0 (pa_cons (pv 1) (pa_cons pe_int (pa_cons (pe_glob (v := .int 9) (by rfl) T.c_MOST_NUMBER ⟨_, rfl⟩) pa_nil)))) (by intro _; rfl))) (pw_or1 (pt_not (ptK_truth (K := K) rfl (pe_call (ok_is_integer_within T) (hr.mono (by decide)) (by rfl) T.g_is_integer_within T.F_is_integer_within.kp T.b_is_integer_within .nil pass0 (pa_cons (pv 4) (pa_cons pe_int (pa_cons (pe_glob (v := .int 9) (by rfl) T.c_MOST_NUMBER ⟨_, rfl⟩) pa_nil)))) (by intro _; rfl)))))) (pss_one (ps_ret pe_bl)) pss_nil)
      (pss_one (ps_ret (pe_and (pe_call (ok_is_text T) (hr.mono (by decide)) (by rfl) T.g_is_text T.F_is_text.kp T.b_is_text .nil pass0 (pa_cons (pv 2) pa_nil)) (pe_and (pe_call (ok_is_count T) (hr.mono (by decide)) (by rfl) T.g_is_count T.F_is_count.kp T.b_is_count .nil pass0 (pa_cons (pv 3) pa_nil)) (pe_one (pe_call (ok_is_zone T) (hr.mono (by decide)) (by rfl) T.g_is_zone T.F_is_zone.kp T.b_is_zone .nil pass0 (pa_cons (pv 5) pa_nil)))))))))), fun ds hd => ?_⟩
  obtain ⟨x, rfl, xs, rfl, hx⟩ := hd
  walk_at "pn"
  by_cases hl : xs.length = 5
  · match xs, hl with
    | [a, b, c, d, e], _ =>
      have hb := okx_tup hx (x := b) (by simp)
      have he := okx_tup hx (x := e) (by simp)
      walk_at "pw"
      all_goals (refine r1d ?_; show _ = PyData.bool (fService (.tuple [a, b, c, d, e])); simp_all [fService, intOf])
  · have e : fService (.tuple xs) = false := by
      unfold fService
      split
      · rename_i h; injection h with h; rw [h] at hl; simp at hl
      · rfl
    walk_at "pw"
    refine r1d ?_
    rw [e]
theorem ok__is_note (T : TX K mg w) : FnOk P w K mg base CX0 4 T.a__is_note T.d__is_note ["value"] (spP K (P1 preTup) (R1 fun x => .bool (fNote x))) := by
  refine okP T.F__is_note sc__is_note 4 rfl P1.len fun cdv A outer s H E hr => ⟨_, (pss_cons (ps_if (pt_cmpR op_ne (pe_callB (callK_len (K := K) rfl) (by rfl) T.n_len PySem.boot_len (pa_cons (pv 0) pa_nil)) pe_int (nomark _)) (pss_one (ps_ret pe_bl)) pss_nil)
      (pss_cons (ps_asg (pv 0) (pgK_tup (K := K) (n := 4) rfl rfl (pgs_cons (pg_name (i := 1) sc__is_note.nd rfl (Or.inl rfl)) (pgs_cons (pg_name (i := 2) sc__is_note.nd rfl (Or.inl rfl)) (pgs_cons (pg_name (i := 3) sc__is_note.nd rfl (Or.inl rfl)) (pgs_cons (pg_name (i := 4) sc__is_note.nd rfl (Or.inl rfl)) pgs_nil))))))
      (pss_cons (ps_if (PW.pt (pw_or (pt_not (ptK_truth (K := K) rfl (pe_call (ok_is_text T) (hr.mono (by decide)) (by rfl) T.g_is_text T.F_is_text.kp T.b_is_text .nil pass0 (pa_cons (pv 1) pa_nil)) (by intro _; rfl))) (pw_or1 (pt_not (ptK_truth (K := K) rfl (pe_call (ok_is_count T) (hr.mono (by decide)) (by rfl) T.g_is_count T.F_is_count.kp T.b_is_count .nil pass0 (pa_cons (pv 4) pa_nil)) (by intro _; rfl)))))) (pss_one (ps_ret pe_bl)) pss_nil)
      (pss_one (ps_ret (pe_or (pe_chain (opK_eqD (K := K) rfl hr.units) (opK_eqD (K := K) rfl hr.units) (pv 2) (pv 3) pe_str) (pe_one (pe_call (ok_is_key T) (hr.mono (by decide)) (by rfl) T.g_is_key T.F_is_key.kp T.b_is_key .nil pass0 (pa_cons (pv 2) (pa_cons (pv 3) pa_nil)))))))))), fun ds hd => ?_⟩
  obtain ⟨x, rfl, xs, rfl, hx⟩ := hd
  walk_at "pn"
  by_cases hl : xs.length = 4
  · match xs, hl with
    | [a, b, c, d], _ =>
      have ha := okx_tup hx (x := a) (by simp)
      have hb := okx_tup hx (x := b) (by simp)
      have hc := okx_tup hx (x := c) (by simp)
      walk_at "pw"
      all_goals (refine r1d ?_; show _ = PyData.bool (fNote (.tuple [a, b, c, d])); simp_all [fNote, intOf])
  · have e : fNote (.tuple xs) = false := by
      unfold fNote
      split
      · rename_i h; injection h with h; rw [h] at hl; simp at hl
      · rfl
    walk_at "pw"
    refine r1d ?_
    rw [e]
theorem ok__is_task (T : TX K mg w) : FnOk P w K mg base CX0 3 T.a__is_task T.d__is_task ["value"] (spP K (P1 preTup) (R1 fun x => .bool (fTask x))) := by
  refine okP T.F__is_task sc__is_task 8 rfl P1.len fun cdv A outer s H E hr => ⟨_, (pss_cons (ps_if (pt_cmpR op_ne (pe_callB (callK_len (K := K) rfl) (by rfl) T.n_len PySem.boot_len (pa_cons (pv 0) pa_nil)) pe_int (nomark _)) (pss_one (ps_ret pe_bl)) pss_nil)
      (pss_cons (ps_asg (pv 0) (pgK_tup (K := K) (n := 8) rfl rfl (pgs_cons (pg_name (i := 1) sc__is_task.nd rfl (Or.inl rfl)) (pgs_cons (pg_name (i := 2) sc__is_task.nd rfl (Or.inl rfl)) (pgs_cons (pg_name (i := 3) sc__is_task.nd rfl (Or.inl rfl)) (pgs_cons (pg_name (i := 4) sc__is_task.nd rfl (Or.inl rfl)) (pgs_cons (pg_name (i := 5) sc__is_task.nd rfl (Or.inl rfl)) (pgs_cons (pg_name (i := 6) sc__is_task.nd rfl (Or.inl rfl)) (pgs_cons (pg_name (i := 7) sc__is_task.nd rfl (Or.inl rfl)) (pgs_cons (pg_name (i := 8) sc__is_task.nd rfl (Or.inl rfl)) pgs_nil))))))))))
      (pss_cons (ps_if (PW.pt (pw_or (pt_not (ptK_truth (K := K) rfl (pe_call (ok_is_count T) (hr.mono (by decide)) (by rfl) T.g_is_count T.F_is_count.kp T.b_is_count .nil pass0 (pa_cons (pv 1) pa_nil)) (by intro _; rfl))) (pw_or (pt_not (ptK_truth (K := K) rfl (pe_call (ok_is_count T) (hr.mono (by decide)) (by rfl) T.g_is_count T.F_is_count.kp T.b_is_count .nil pass0 (pa_cons (pv 3) pa_nil)) (by intro _; rfl))) (pw_or1 (pt_not (ptK_truth (K := K) rfl (pe_call (ok_is_count T) (hr.mono (by decide)) (by rfl) T.g_is_count T.F_is_count.kp T.b_is_count .nil pass0 (pa_cons (pv 7) pa_nil)) (by intro _; rfl))))))) (pss_one (ps_ret pe_bl)) pss_nil)
      (pss_cons (ps_if (PW.pt (pw_or (pt_not (ptK_truth (K := K) rfl (pe_call (ok_is_text T) (hr.mono (by decide)) (by rfl) T.g_is_text T.F_is_text.kp T.b_is_text .nil pass0 (pa_cons (pv 2) pa_nil)) (by intro _; rfl))) (pw_or (pt_not (ptK_truth (K := K) rfl (pe_call (ok_is_zone T) (hr.mono (by decide)) (by rfl) T.g_is_zone T.F_is_zone.kp T.b_is_zone .nil pass0 (pa_cons (pv 6) pa_nil)) (by intro _; rfl))) (pw_or1 (pt_not (ptK_truth (K := K) rfl (pe_call (ok_is_zone T) (hr.mono (by decide)) (by rfl) T.g_is_zone T.F_is_zone.kp T.b_is_zone .nil pass0 (pa_cons (pv 8) pa_nil)) (by intro _; rfl))))))) (pss_one (ps_ret pe_bl)) pss_nil)
      (pss_one (ps_ret (pe_and (pe_cmpR (opK_inT (K := K) rfl (hu65 hr)) (pv 4) (pe_glob (v := .ref T.ca_STATES) (by rfl) T.c_STATES rfl) rfl) (pe_one (pe_call (ok_is_integer_within T) (hr.mono (by decide)) (by rfl) T.g_is_integer_within T.F_is_integer_within.kp T.b_is_integer_within .nil pass0 (pa_cons (pv 5) (pa_cons pe_int (pa_cons pe_int pa_nil)))))))))))), fun ds hd => ?_⟩
  obtain ⟨x, rfl, xs, rfl, hx⟩ := hd
  walk_at "pn"
  by_cases hl : xs.length = 8
  · match xs, hl with
    | [a, b, c, d, e, f, g, h], _ =>
      have hb := okx_tup hx (x := b) (by simp)
      have hd := okx_tup hx (x := d) (by simp)
      have hf := okx_tup hx (x := f) (by simp)
      have hh := okx_tup hx (x := h) (by simp)
      walk_at "pw"
      all_goals try (refine we_cT T.q_STATES rfl ?_; walk_at "pw")
      all_goals (refine r1d ?_; show _ = PyData.bool (fTask (.tuple [a, b, c, d, e, f, g, h])); simp_all [fTask, intOf, statesD, sc])
  · have e : fTask (.tuple xs) = false := by
      unfold fTask
      split
      · rename_i h; injection h with h; rw [h] at hl; simp at hl
      · rfl
    walk_at "pw"
    refine r1d ?_
    rw [e]
end
/-! objects -/
def formOf (z : Str) : PyData → Bool :=
  if z = "beat" then fBeat else if z = "drain" then fDrain else if z = "node" then fNode else if z = "note" then fNote else if z = "rollout" then fRollout else if z = "service" then fService else fTask
def isObj (k n v : PyData) : Bool := isKy k n && (isTupD v && match k with | .str z => formOf z v | _ => false)
def kindNames : List Str := ["beat", "drain", "node", "note", "rollout", "service", "task"]
theorem eqv_strR {d : PyData} {t : Str} (h : d.eqv (.str t) = true) : d = .str t := by
  cases d with
  | str z => unfold PyData.eqv at h; rw [beq_iff_eq] at h; rw [h]
  | _ => unfold PyData.eqv at h; cases h
theorem eqv_strL {d : PyData} {t : Str} (h : (PyData.str t).eqv d = true) : d = .str t := by
  cases d with
  | str z => unfold PyData.eqv at h; rw [beq_iff_eq] at h; rw [h]
  | _ => unfold PyData.eqv at h; cases h
theorem isKy_kind {k n : PyData} (h : isKy k n = true) : ∃ z ∈ kindNames, k = .str z := by
  unfold isKy at h
  split at h
  · next he => exact ⟨_, by decide, eqv_strR he⟩
  · rw [Bool.and_eq_true, List.any_eq_true] at h
    obtain ⟨⟨z, hz, he⟩, _⟩ := h
    simp only [kindsD, List.mem_cons, List.not_mem_nil, or_false] at hz
    rcases hz with rfl | rfl | rfl | rfl | rfl | rfl | rfl <;> exact ⟨_, by decide, eqv_strL he⟩
section
variable {P : Program} {w : World} {K : PySem.W.Frag} {mg : Str → Option Value} {base : Heap}
theorem form_fn (T : TX K mg w) (z : Str) (hz : z ∈ kindNames) : ∃ (k : Nat) (fa : Addr) (fd : FuncData), k + 1 ≤ 5 ∧ FnOk P w K mg base CX0 k fa fd ["value"] (spP K (P1 preTup) (R1 fun x => .bool (formOf z x))) ∧ PySem.W.keepIn K (.ref fa) = true ∧ Binds K fd ["value"] [] ∧ PySem.W.nsIn K T.ca_VALUE_FORMS z = some (some (.ref fa)) := by
  simp only [kindNames, List.mem_cons, List.not_mem_nil, or_false] at hz
  rcases hz with rfl | rfl | rfl | rfl | rfl | rfl | rfl
  · exact ⟨_, _, _, by decide, ok__is_beat T, T.F__is_beat.kp, T.b__is_beat, T.j_VALUE_FORMS_beat⟩
  · exact ⟨_, _, _, by decide, ok__is_drain T, T.F__is_drain.kp, T.b__is_drain, T.j_VALUE_FORMS_drain⟩
  · exact ⟨_, _, _, by decide, ok__is_node T, T.F__is_node.kp, T.b__is_node, T.j_VALUE_FORMS_node⟩
  · exact ⟨_, _, _, by decide, ok__is_note T, T.F__is_note.kp, T.b__is_note, T.j_VALUE_FORMS_note⟩
  · exact ⟨_, _, _, by decide, ok__is_rollout T, T.F__is_rollout.kp, T.b__is_rollout, T.j_VALUE_FORMS_rollout⟩
  · exact ⟨_, _, _, by decide, ok__is_service T, T.F__is_service.kp, T.b__is_service, T.j_VALUE_FORMS_service⟩
  · exact ⟨_, _, _, by decide, ok__is_task T, T.F__is_task.kp, T.b__is_task, T.j_VALUE_FORMS_task⟩
theorem ok_is_object (T : TX K mg w) : FnOk P w K mg base CX0 5 T.a_is_object T.d_is_object ["kind", "name", "value"] (spP K (P3 fun k n v => okx 8 k = true ∧ okx 8 n = true ∧ okx 8 v = true) (R3 fun k n v => .bool (isObj k n v))) := by
  refine okPd T.F_is_object sc_is_object 1 rfl P3.len fun cdv A outer s H E hr ds hd => ?_
  obtain ⟨k, n, v, rfl, hk, hn, hv⟩ := hd
  obtain ⟨z, hz, hkz⟩ : ∃ z ∈ kindNames, isKy k n = true → k = .str z := by
    by_cases h : isKy k n = true
    · obtain ⟨z, h1, h2⟩ := isKy_kind h
      exact ⟨z, h1, fun _ => h2⟩
    · exact ⟨"beat", by decide, fun z => absurd z h⟩
  obtain ⟨lv, fa, fd, hlL', hlF, hlK, hlB, hj⟩ := form_fn (P := P) (w := w) (base := base) T z hz
  have hlL := Nat.le_of_succ_le_succ hlL'
  refine ⟨_, (pss_cons (ps_if (PW.pt (pw_or (pt_not (ptK_truth (K := K) rfl (pe_call (ok_is_key T) (hr.mono (by decide)) (by rfl) T.g_is_key T.F_is_key.kp T.b_is_key .nil pass0 (pa_cons (pv 0) (pa_cons (pv 1) pa_nil))) (by intro _; rfl))) (pw_or1 (pt_not (pt_val (pe_callB (callK_isi (K := K) rfl) (by rfl) T.n_isinstance (by decide +kernel) (pa_cons (pv 2) (pa_cons (pe_bltn (v := .ty "tuple") (u := .type "tuple") (by rfl) T.n_tuple (by decide +kernel) rfl) pa_nil)))))))) (pss_one (ps_ret pe_bl)) pss_nil)
      (pss_cons (ps_set (i := 3) sc_is_object.nd rfl (Or.inl rfl) (pe_ix (ixK_kd (K := K) rfl T.D_VALUE_FORMS) (pe_glob (v := .ref T.ca_VALUE_FORMS) (by rfl) T.c_VALUE_FORMS rfl) (pv 0) (fun _ _ => rfl)))
      (pss_one (ps_ret (pe_callL (i := 3) hlF (hr.mono hlL) rfl (Or.inl rfl) hlK hlB .nil pass0 (pa_cons (pv 2) pa_nil)))))), ?_⟩
  walk_at "pn"
  walk_at "px"
  walk_at "pi"
  · intro h1
    have e := hkz h1
    walk_at "px"
    cases v
    case tuple xs =>
      walk_at "px"
      refine we_cV ?_
      rw [e]
      walk_at "px"
      refine opP_kd hj ?_
      walk_at "px"
      refine we_callL1 rfl ?_
      walk_at "px"
      refine r3d ?_
      show _ = PyData.bool (isKy (.str z) n && (true && formOf z (.tuple xs)))
      rw [show isKy (.str z) n = true by rw [← e]; exact h1]
      rfl
    all_goals walk_at "px"
    all_goals (refine r3d ?_; show _ = PyData.bool (isKy k n && (false && _)); rw [Bool.false_and, Bool.and_false])
  · intro h1
    walk_at "px"
    refine r3d ?_
    show _ = PyData.bool (isKy k n && _)
    rw [h1, Bool.false_and]
end
/-! transactions -/
def isTupN (x y : PyData) : Bool := match x with
  | .tuple xs => decide ((xs.length : Int) = intOf y)
  | _ => false
def isCond : PyData → Bool
  | .tuple [k, n, r] => isKy k n && isCt r
  | _ => false
def isPut : PyData → Bool
  | .tuple [k, n, v] => isObj k n v
  | _ => false
def isDel : PyData → Bool
  | .tuple [k, n] => isKy k n
  | _ => false
def keyOf : PyData → List Key
  | .tuple [.str a, .str b] => [.inr a, .inr b]
  | _ => []
def distD (ks : List PyData) : Bool := decide ((ks.map keyOf).Nodup)
def is2S (k : PyData) : Prop := ∃ a b, k = .tuple [.str a, .str b]
theorem valV_mem {kvs : List (List Key × V)} {k : List Key} : (valV kvs k).isSome = true ↔ k ∈ kvs.map Prod.fst := by
  unfold valV
  rw [Option.isSome_map, List.find?_isSome, List.mem_map]
  constructor
  · rintro ⟨x, h1, h2⟩; exact ⟨x, h1, of_decide_eq_true h2⟩
  · rintro ⟨x, h1, h2⟩; exact ⟨x, h1, decide_eq_true h2⟩
theorem putK_new {kvs : List (List Key × V)} {k : List Key} {v : V} (h : k ∉ kvs.map Prod.fst) : putK kvs k v = kvs ++ [(k, v)] := by
  unfold putK
  rw [if_neg]
  intro h2
  rw [List.any_eq_true] at h2
  obtain ⟨x, h3, h4⟩ := h2
  exact h (List.mem_map.mpr ⟨x, h3, of_decide_eq_true h4⟩)
section
variable {P : Program} {w : World} {K : PySem.W.Frag} {mg : Str → Option Value} {base : Heap}
theorem ok__is_tuple_of (T : TX K mg w) : FnOk P w K mg base CX0 1 T.a__is_tuple_of T.d__is_tuple_of ["value", "size"] (spP K (P2 fun x y => ∃ n, y = .int n) (R2' fun x y => .bool (isTupN x y))) := by
  refine okP T.F__is_tuple_of sc__is_tuple_of 0 rfl P2.len fun cdv A outer s H E hr => ⟨_, (pss_one (ps_ret (pe_and (pe_callB (callK_isi (K := K) rfl) (by rfl) T.n_isinstance (by decide +kernel) (pa_cons (pv 0) (pa_cons (pe_bltn (v := .ty "tuple") (u := .type "tuple") (by rfl) T.n_tuple (by decide +kernel) rfl) pa_nil))) (pe_one (pe_cmpR op_eq (pe_callB (callK_len (K := K) rfl) (by rfl) T.n_len PySem.boot_len (pa_cons (pv 0) pa_nil)) (pv 1) (nomark _)))))), fun ds hd => ?_⟩
  obtain ⟨x, y, rfl, n, rfl⟩ := hd
  walk_at "pn"
  cases x
  all_goals walk_at "px"
  all_goals walk_at "pr"
theorem ok__is_condition (T : TX K mg w) : FnOk P w K mg base CX0 4 T.a__is_condition T.d__is_condition ["condition"] (spP K (P1 fun x => okx 8 x = true) (R1 fun x => .bool (isCond x))) := by
  refine okP T.F__is_condition sc__is_condition 0 rfl P1.len fun cdv A outer s H E hr => ⟨_, (pss_one (ps_ret (pe_and (pe_call (ok__is_tuple_of T) (hr.mono (by decide)) (by rfl) T.g__is_tuple_of T.F__is_tuple_of.kp T.b__is_tuple_of .nil pass0 (pa_cons (pv 0) (pa_cons pe_int pa_nil))) (pe_and (pe_call (ok_is_key T) (hr.mono (by decide)) (by rfl) T.g_is_key T.F_is_key.kp T.b_is_key .nil pass0 (pa_cons (pe_ix (ixK_tup (K := K) rfl) (pv 0) pe_int (fun _ _ => rfl)) (pa_cons (pe_ix (ixK_tup (K := K) rfl) (pv 0) pe_int (fun _ _ => rfl)) pa_nil))) (pe_one (pe_call (ok_is_count T) (hr.mono (by decide)) (by rfl) T.g_is_count T.F_is_count.kp T.b_is_count .nil pass0 (pa_cons (pe_ix (ixK_tup (K := K) rfl) (pv 0) pe_int (fun _ _ => rfl)) pa_nil))))))), fun ds hd => ?_⟩
  obtain ⟨x, rfl, hx⟩ := hd
  walk_at "pn"
  cases x
  case tuple xs =>
    by_cases hl : xs.length = 3
    · match xs, hl with
      | [a, b, c], _ =>
        have ha := okx_tup hx (x := a) (by simp)
        have hb := okx_tup hx (x := b) (by simp)
        walk_at "pw"
        all_goals (refine r1d ?_; show _ = PyData.bool (isCond (.tuple [a, b, c])); simp_all [isCond, isTupN, intOf])
    · have e : isCond (.tuple xs) = false := by
        unfold isCond
        split
        · rename_i h; injection h with h; rw [h] at hl; simp at hl
        · rfl
      have e2 : isTupN (.tuple xs) (.int 3) = false := decide_eq_false (by show ¬ (xs.length : Int) = 3; omega)
      walk_at "px"
      rw [e2]
      walk_at "px"
      refine r1d ?_
      rw [e]
  all_goals walk_at "px"
  all_goals walk_at "pr"
theorem ok__is_put (T : TX K mg w) : FnOk P w K mg base CX0 6 T.a__is_put T.d__is_put ["put"] (spP K (P1 fun x => okx 8 x = true) (R1 fun x => .bool (isPut x))) := by
  refine okP T.F__is_put sc__is_put 0 rfl P1.len fun cdv A outer s H E hr => ⟨_, (pss_one (ps_ret (pe_and (pe_call (ok__is_tuple_of T) (hr.mono (by decide)) (by rfl) T.g__is_tuple_of T.F__is_tuple_of.kp T.b__is_tuple_of .nil pass0 (pa_cons (pv 0) (pa_cons pe_int pa_nil))) (pe_one (pe_call (ok_is_object T) (hr.mono (by decide)) (by rfl) T.g_is_object T.F_is_object.kp T.b_is_object .nil pass0 (pa_cons (pe_ix (ixK_tup (K := K) rfl) (pv 0) pe_int (fun _ _ => rfl)) (pa_cons (pe_ix (ixK_tup (K := K) rfl) (pv 0) pe_int (fun _ _ => rfl)) (pa_cons (pe_ix (ixK_tup (K := K) rfl) (pv 0) pe_int (fun _ _ => rfl)) pa_nil)))))))), fun ds hd => ?_⟩
  obtain ⟨x, rfl, hx⟩ := hd
  walk_at "pn"
  cases x
  case tuple xs =>
    by_cases hl : xs.length = 3
    · match xs, hl with
      | [a, b, c], _ =>
        have ha := okx_tup hx (x := a) (by simp)
        have hb := okx_tup hx (x := b) (by simp)
        have hc := okx_tup hx (x := c) (by simp)
        walk_at "pw"
        all_goals (refine r1d ?_; show _ = PyData.bool (isPut (.tuple [a, b, c])); simp_all [isPut, isTupN, intOf])
    · have e : isPut (.tuple xs) = false := by
        unfold isPut
        split
        · rename_i h; injection h with h; rw [h] at hl; simp at hl
        · rfl
      have e2 : isTupN (.tuple xs) (.int 3) = false := decide_eq_false (by show ¬ (xs.length : Int) = 3; omega)
      walk_at "px"
      rw [e2]
      walk_at "px"
      refine r1d ?_
      rw [e]
  all_goals walk_at "px"
  all_goals walk_at "pr"
theorem ok__is_delete (T : TX K mg w) : FnOk P w K mg base CX0 4 T.a__is_delete T.d__is_delete ["delete"] (spP K (P1 fun x => okx 8 x = true) (R1 fun x => .bool (isDel x))) := by
  refine okP T.F__is_delete sc__is_delete 0 rfl P1.len fun cdv A outer s H E hr => ⟨_, (pss_one (ps_ret (pe_and (pe_call (ok__is_tuple_of T) (hr.mono (by decide)) (by rfl) T.g__is_tuple_of T.F__is_tuple_of.kp T.b__is_tuple_of .nil pass0 (pa_cons (pv 0) (pa_cons pe_int pa_nil))) (pe_one (pe_call (ok_is_key T) (hr.mono (by decide)) (by rfl) T.g_is_key T.F_is_key.kp T.b_is_key .nil pass0 (pa_cons (pe_ix (ixK_tup (K := K) rfl) (pv 0) pe_int (fun _ _ => rfl)) (pa_cons (pe_ix (ixK_tup (K := K) rfl) (pv 0) pe_int (fun _ _ => rfl)) pa_nil))))))), fun ds hd => ?_⟩
  obtain ⟨x, rfl, hx⟩ := hd
  walk_at "pn"
  cases x
  case tuple xs =>
    by_cases hl : xs.length = 2
    · match xs, hl with
      | [a, b], _ =>
        have ha := okx_tup hx (x := a) (by simp)
        have hb := okx_tup hx (x := b) (by simp)
        walk_at "pw"
        all_goals (refine r1d ?_; show _ = PyData.bool (isDel (.tuple [a, b])); simp_all [isDel, isTupN, intOf])
    · have e : isDel (.tuple xs) = false := by
        unfold isDel
        split
        · rename_i h; injection h with h; rw [h] at hl; simp at hl
        · rfl
      have e2 : isTupN (.tuple xs) (.int 2) = false := decide_eq_false (by show ¬ (xs.length : Int) = 2; omega)
      walk_at "px"
      rw [e2]
      walk_at "px"
      refine r1d ?_
      rw [e]
  all_goals walk_at "px"
  all_goals walk_at "pr"
theorem ok__are_distinct (T : TX K mg w) : FnOk P w K mg base CX0 1 T.a__are_distinct T.d__are_distinct ["keys"] (spP K (P1 fun x => ∃ ks, x = .list ks ∧ ks.length ≤ 1000 ∧ ∀ k ∈ ks, is2S k) (R1 fun x => .bool (match x with | .list ks => distD ks | _ => false))) := by
  refine T.F__are_distinct.ok sc__are_distinct (fun vs H Q E h => ?_) (fun cdv A outer s H vs Q E hr h => ?_)
  · obtain ⟨ds, B, hd, hB, ⟨x, rfl, _⟩, _⟩ := h
    exact dqa_len hd
  · obtain ⟨_, B, hd, hB, ⟨x, rfl, ks, rfl, hl, hk⟩, q⟩ := h
    obtain ⟨p, us, rfl, hp, hv⟩ : ∃ p us, vs = [.ref p] ∧ B p = some (.lst us) ∧ DqAll K B us ks := by
      cases hd with
      | cons h1 h2 => cases h2; obtain ⟨p, us, rfl, h3, h4⟩ := dq_lst h1; exact ⟨p, us, rfl, h3, h4⟩
    have lu := dqa_len hv
    refine ⟨_, (pss_cons (ps_set (i := 1) sc__are_distinct.nd rfl (Or.inl rfl) pe_dnewT)
      (pss_cons (ps_for PassesOwn.never rfl (pi_list (pv 0)) (pg_name (i := 2) sc__are_distinct.nd rfl (Or.inl rfl))
        (pss_cons (ps_if (pt_cmp (pc_din (hu_of hr) (pv 2) (pv 1))) (pss_one (ps_ret pe_bl)) pss_nil)
        (pss_one (ps_dput (hu_of hr) (pv 1) (pv 2) pe_bl rfl))))
      (pss_one (ps_ret pe_bl)))), ?_⟩
    intro o ho
    have s1 := same_upd (o := .dT []) ho
    have out : ∀ (b : Bool) G, b = distD ks → Same H G → Q (.bl b) G := fun b G e sG => q (.bl b) (.d (.bool b)) G B (fun x hx => by cases hx; rw [e]) sG (Same.refl _) (hB.trans sG) (fun _ _ h => h) (.bl b)
    refine ⟨_, rfl, p, rfl, ⟨us, sql (s1 _ _ (hB _ _ hp))⟩, for_list (K := K) (a := p) (xs := us) (fun i σ G => ∃ (kvs : List (List Key × V)) (x2 : Option V), σ = [some (.ref p), some (.ref o), x2] ∧ Same H G ∧ G o = some (.dT kvs) ∧ kvs.map Prod.fst = (ks.take i).map keyOf ∧ ((ks.take i).map keyOf).Nodup)
      ⟨[], none, rfl, s1, upd_same, rfl, .nil⟩ (fun i σ G _ ⟨_, _, _, sG, _⟩ => sql (sG _ _ (hB _ _ hp))) ?_ ?_⟩
    · rintro i v σ G hx ⟨kvs, x2, rfl, sG, ho2, hkv, hnd⟩
      obtain ⟨k, hki, hdk⟩ := dqa_atV hv hx
      obtain ⟨a, b, rfl⟩ := hk k (List.mem_of_getElem? hki)
      obtain ⟨t, ws, rfl, ht, hw⟩ := dq_tupH hdk
      have ew : ws = [.str a, .str b] := by
        cases hw with
        | cons h1 h2 =>
          cases h2 with
          | cons h3 h4 => cases h4; rw [dq_str h1, dq_str h3]
      subst ew
      have hi := (List.getElem?_eq_some_iff.mp hki).1
      have htk : ks.take (i + 1) = ks.take i ++ [.tuple [.str a, .str b]] := take_succ_app hki
      have hG : G t = some (.tup (([.inr a, .inr b] : List Key).map kV)) := sG _ _ (hB _ _ ht)
      refine ⟨_, rfl, _, rfl, o, _, rfl, DGet.t ho2 hG, ?_⟩
      have hns : ks = ks.take i ++ .tuple [.str a, .str b] :: ks.drop (i + 1) := by
        have hg := List.getElem?_eq_some_iff.mp hki
        rw [← hg.2, ← List.drop_eq_getElem_cons hg.1, List.take_append_drop]
      cases hc : (valV kvs [.inr a, .inr b]).isSome with
      | true =>
        have hm := valV_mem.mp hc
        rw [hkv] at hm
        refine ⟨true, rfl, ifbt rfl ?_⟩
        refine out false G ?_ sG
        unfold distD
        rw [decide_eq_false]
        intro h
        rw [hns, List.map_append, List.nodup_append] at h
        exact h.2.2 _ hm _ (List.mem_cons_self ..) rfl
      | false =>
        have hm : ([.inr a, .inr b] : List Key) ∉ kvs.map Prod.fst := fun h => by rw [valV_mem.mpr h] at hc; cases hc
        have hlen : kvs.length ≤ 1000 := by
          have := congrArg List.length hkv
          rw [List.length_map, List.length_map, List.length_take] at this
          omega
        refine ⟨false, rfl, ifbf rfl ?_⟩
        refine ⟨_, rfl, _, rfl, o, _, rfl, DPut.t ho2 hG (szl (by omega)), ?_⟩
        refine ⟨_, _, rfl, same_put sG ho, upd_same, ?_, ?_⟩
        · rw [putK_new hm, htk, List.map_append, List.map_append, hkv]; rfl
        · rw [htk, List.map_append, List.nodup_append]
          refine ⟨hnd, by simp, fun x hx y hy => ?_⟩
          rw [List.map_singleton, List.mem_singleton] at hy
          intro e
          rw [e, hy] at hx
          rw [hkv] at hm
          exact hm hx
    · rintro σ G ⟨kvs, x2, rfl, sG, ho2, hkv, hnd⟩
      rw [lu, List.take_length] at hnd
      exact out true G (decide_eq_true hnd).symm sG
end
def put2 : PyData → PyData
  | .tuple xs => .tuple (cutD xs none (some 2))
  | _ => .none
def isTup12 : PyData → Bool
  | .tuple xs => decide (xs.length ≤ 12)
  | _ => false
def isTrans : PyData → Bool
  | .tuple [.tuple c, .tuple p, .tuple d] => decide (c.length ≤ 12) && (decide (p.length ≤ 12) && (decide (d.length ≤ 12) && (c.all isCond && (p.all isPut && (d.all isDel && distD (p.map put2 ++ d))))))
  | _ => false
theorem isTrans_tup {x : PyData} (h : isTrans x = true) : ∃ c p d, x = .tuple [.tuple c, .tuple p, .tuple d] ∧ c.length ≤ 12 ∧ p.length ≤ 12 ∧ d.length ≤ 12 ∧ c.all isCond = true ∧ p.all isPut = true ∧ d.all isDel = true ∧ distD (p.map put2 ++ d) = true := by
  unfold isTrans at h
  split at h
  · rename_i c p d
    simp only [Bool.and_eq_true, decide_eq_true_iff] at h
    exact ⟨c, p, d, rfl, h.1, h.2.1, h.2.2.1, h.2.2.2.1, h.2.2.2.2.1, h.2.2.2.2.2.1, h.2.2.2.2.2.2⟩
  · cases h
theorem isTrans_of {c p d : List PyData} (h1 : c.length ≤ 12) (h2 : p.length ≤ 12) (h3 : d.length ≤ 12) (h4 : c.all isCond = true) (h5 : p.all isPut = true) (h6 : d.all isDel = true) (h7 : distD (p.map put2 ++ d) = true) : isTrans (.tuple [.tuple c, .tuple p, .tuple d]) = true := by
  show (decide (c.length ≤ 12) && (decide (p.length ≤ 12) && (decide (d.length ≤ 12) && (c.all isCond && (p.all isPut && (d.all isDel && distD (p.map put2 ++ d))))))) = true
  rw [decide_eq_true h1, decide_eq_true h2, decide_eq_true h3, h4, h5, h6, h7]; rfl
theorem ky_str {k n : PyData} (h : isKy k n = true) : ∃ a b, k = .str a ∧ n = .str b := by
  obtain ⟨z, _, rfl⟩ := isKy_kind h
  unfold isKy at h
  cases n with
  | str y => exact ⟨z, y, rfl, rfl⟩
  | _ => split at h <;> first | (cases h; done) | (rw [Bool.and_eq_true] at h; cases h.2)
theorem del_2S {x : PyData} (h : isDel x = true) : is2S x := by
  unfold isDel at h
  split at h
  · obtain ⟨a, b, rfl, rfl⟩ := ky_str h; exact ⟨a, b, rfl⟩
  · cases h
theorem put_2S {x : PyData} (h : isPut x = true) : is2S (put2 x) := by
  unfold isPut at h
  split at h
  · rename_i k n v
    have hk : isKy k n = true := ((Bool.and_eq_true _ _).mp h).1
    obtain ⟨a, b, rfl, rfl⟩ := ky_str hk; exact ⟨a, b, rfl⟩
  · cases h
def badT (C : Addr) : List PyData → Addr → Prop := fun ds D => ∃ x, ds = [x] ∧ isTrans x = false ∧ D = C
theorem badT_of {C : Addr} {x : PyData} (h : isTrans x = false) : badT C [x] C := ⟨x, rfl, h, rfl⟩
section
variable {P : Program} {w : World} {K : PySem.W.Frag} {mg : Str → Option Value} {base : Heap}
theorem ok_check_transaction (T : TX K mg w) : FnOk P w K mg base (L2.CX P w) 7 T.a_check_transaction T.d_check_transaction ["transaction"] (spX K (P1 fun x => okx 8 x = true) (fun ds r => ∀ x, ds = [x] → isTrans x = true ∧ r = .d .none) (badT T.a_BadTransaction)) := by
  refine okX T.F_check_transaction sc_check_transaction 7 rfl P1.len fun cdv A outer s H E hr => ⟨_, (pss_cons (ps_if (pt_not (ptK_truth (K := K) rfl (pe_call (ok__is_tuple_of T) (hr.mono (by decide)) (by rfl) T.g__is_tuple_of T.F__is_tuple_of.kp T.b__is_tuple_of .nil pass0 (pa_cons (pv 0) (pa_cons pe_int pa_nil))) (by intro _; rfl))) (pss_one (ps_leave rfl (takes_of rfl rfl rfl rfl) (pmk_own PySem.F.excBase_ValueError T.x_BadTransaction T.g_BadTransaction T.k_BadTransaction (raises_own T.s_BadTransaction T.t_BadTransaction) rfl))) pss_nil)
      (pss_cons (ps_for (passes_of rfl) rfl (piK_tup (K := K) rfl (pv 0)) (pg_name (i := 1) sc_check_transaction.nd rfl (Or.inl rfl))
        (pss_one (ps_if (PW.pt (pw_or (pt_not (pt_val (pe_callB (callK_isi (K := K) rfl) (by rfl) T.n_isinstance (by decide +kernel) (pa_cons (pv 1) (pa_cons (pe_bltn (v := .ty "tuple") (u := .type "tuple") (by rfl) T.n_tuple (by decide +kernel) rfl) pa_nil))))) (pw_or1 (pt_cmpR op_gt (pe_callB (callK_len (K := K) rfl) (by rfl) T.n_len PySem.boot_len (pa_cons (pv 1) pa_nil)) (pe_glob (v := .int 12) (by rfl) T.c_MOST_MEMBERS ⟨_, rfl⟩) (nomark _))))) (pss_one (ps_leave rfl (takes_of rfl rfl rfl rfl) (pmk_own PySem.F.excBase_ValueError T.x_BadTransaction T.g_BadTransaction T.k_BadTransaction (raises_own T.s_BadTransaction T.t_BadTransaction) rfl))) pss_nil)))
      (pss_cons (ps_asg (pv 0) (pgK_tup (K := K) (n := 3) rfl rfl (pgs_cons (pg_name (i := 2) sc_check_transaction.nd rfl (Or.inl rfl)) (pgs_cons (pg_name (i := 3) sc_check_transaction.nd rfl (Or.inl rfl)) (pgs_cons (pg_name (i := 4) sc_check_transaction.nd rfl (Or.inl rfl)) pgs_nil)))))
      (pss_cons (ps_if (pt_not (pt_val (pe_callB (callK_all (K := K) rfl rfl) (by rfl) T.n_all (by decide +kernel) (pa_cons (pe_lc (own := [("condition", 5)]) (g := gName 5) (tt := tYes) (by rfl) sc_check_transaction.nd (piK_tup (K := K) rfl (pv 2)) (blkOk_by (own := [("condition", 5)]) (N := ["transaction", "part", "conditions", "puts", "deletes", "condition", "put", "delete"]) (sc := defScope s_check_transaction) (by decide +kernel)) (fun _ _ _ _ _ => pg_name (i := 5) sc_check_transaction.nd rfl (Or.inl rfl)) (fun _ _ _ _ _ => pts_nil) (fun _ _ _ _ _ => (pe_call (ok__is_condition T) (hr.mono (by decide)) (by rfl) T.g__is_condition T.F__is_condition.kp T.b__is_condition .nil pass0 (pa_cons (pv 5) pa_nil)))) pa_nil)))) (pss_one (ps_leave rfl (takes_of rfl rfl rfl rfl) (pmk_own PySem.F.excBase_ValueError T.x_BadTransaction T.g_BadTransaction T.k_BadTransaction (raises_own T.s_BadTransaction T.t_BadTransaction) rfl))) pss_nil)
      (pss_cons (ps_if (pt_not (pt_val (pe_callB (callK_all (K := K) rfl rfl) (by rfl) T.n_all (by decide +kernel) (pa_cons (pe_lc (own := [("put", 6)]) (g := gName 6) (tt := tYes) (by rfl) sc_check_transaction.nd (piK_tup (K := K) rfl (pv 3)) (blkOk_by (own := [("put", 6)]) (N := ["transaction", "part", "conditions", "puts", "deletes", "condition", "put", "delete"]) (sc := defScope s_check_transaction) (by decide +kernel)) (fun _ _ _ _ _ => pg_name (i := 6) sc_check_transaction.nd rfl (Or.inl rfl)) (fun _ _ _ _ _ => pts_nil) (fun _ _ _ _ _ => (pe_call (ok__is_put T) (hr.mono (by decide)) (by rfl) T.g__is_put T.F__is_put.kp T.b__is_put .nil pass0 (pa_cons (pv 6) pa_nil)))) pa_nil)))) (pss_one (ps_leave rfl (takes_of rfl rfl rfl rfl) (pmk_own PySem.F.excBase_ValueError T.x_BadTransaction T.g_BadTransaction T.k_BadTransaction (raises_own T.s_BadTransaction T.t_BadTransaction) rfl))) pss_nil)
      (pss_cons (ps_if (pt_not (pt_val (pe_callB (callK_all (K := K) rfl rfl) (by rfl) T.n_all (by decide +kernel) (pa_cons (pe_lc (own := [("delete", 7)]) (g := gName 7) (tt := tYes) (by rfl) sc_check_transaction.nd (piK_tup (K := K) rfl (pv 4)) (blkOk_by (own := [("delete", 7)]) (N := ["transaction", "part", "conditions", "puts", "deletes", "condition", "put", "delete"]) (sc := defScope s_check_transaction) (by decide +kernel)) (fun _ _ _ _ _ => pg_name (i := 7) sc_check_transaction.nd rfl (Or.inl rfl)) (fun _ _ _ _ _ => pts_nil) (fun _ _ _ _ _ => (pe_call (ok__is_delete T) (hr.mono (by decide)) (by rfl) T.g__is_delete T.F__is_delete.kp T.b__is_delete .nil pass0 (pa_cons (pv 7) pa_nil)))) pa_nil)))) (pss_one (ps_leave rfl (takes_of rfl rfl rfl rfl) (pmk_own PySem.F.excBase_ValueError T.x_BadTransaction T.g_BadTransaction T.k_BadTransaction (raises_own T.s_BadTransaction T.t_BadTransaction) rfl))) pss_nil)
      (pss_one (ps_if (pt_not (ptK_truth (K := K) rfl (pe_call (ok__are_distinct T) (hr.mono (by decide)) (by rfl) T.g__are_distinct T.F__are_distinct.kp T.b__are_distinct .nil pass0 (pa_cons (pe_op op_cat (pe_lc (own := [("put", 6)]) (g := gName 6) (tt := tYes) (by rfl) sc_check_transaction.nd (piK_tup (K := K) rfl (pv 3)) (blkOk_by (own := [("put", 6)]) (N := ["transaction", "part", "conditions", "puts", "deletes", "condition", "put", "delete"]) (sc := defScope s_check_transaction) (by decide +kernel)) (fun _ _ _ _ _ => pg_name (i := 6) sc_check_transaction.nd rfl (Or.inl rfl)) (fun _ _ _ _ _ => pts_nil) (fun _ _ _ _ _ => (pe_slice (slK_tupA (K := K) rfl) (pv 6) po_none (po_some pe_int)))) (pe_callTy (callK_list (K := K) rfl) (by rfl) T.n_list (by decide +kernel) (pa_cons (pv 4) pa_nil))) pa_nil)) (by intro _; rfl))) (pss_one (ps_leave rfl (takes_of rfl rfl rfl rfl) (pmk_own PySem.F.excBase_ValueError T.x_BadTransaction T.g_BadTransaction T.k_BadTransaction (raises_own T.s_BadTransaction T.t_BadTransaction) rfl))) pss_nil)))))))), fun ds hd => ?_⟩
  obtain ⟨x, rfl, hx⟩ := hd
  walk_at "pn"
  by_cases h3 : ∃ a b c, x = .tuple [a, b, c]
  case neg =>
    have e : isTrans x = false := by
      rw [Bool.eq_false_iff]
      intro h
      obtain ⟨c, p, d, rfl, _⟩ := isTrans_tup h
      exact h3 ⟨_, _, _, rfl⟩
    have e2 : isTupN x (.int 3) = false := by
      cases x
      case tuple xs =>
        refine decide_eq_false fun h => h3 ?_
        have hl : xs.length = 3 := by have : (xs.length : Int) = 3 := h; omega
        match xs, hl with
        | [a, b, c], _ => exact ⟨a, b, c, rfl⟩
      all_goals rfl
    walk_at "px"
    rw [e2]
    walk_at "px"
    exact badT_of e
  obtain ⟨a, b, c, rfl⟩ := h3
  walk_at "px"
  refine ws_for ?_
  walk_at "px"
  refine ⟨Unit, fun _ => [.d (.tuple [a, b, c]), .u, .u, .u, .u, .u, .u, .u], fun _ => (), fun i _ => ∀ y ∈ [a, b, c].take i, isTup12 y = true, nxt () (by walk_at "wk") rfl (by simp), fun i y _ hy hI => ?_, fun _ hI => ?_⟩
  · dsimp only at hI
    have hm := List.mem_of_getElem? hy
    have htk := take_succ_app hy
    have bad : isTup12 y = false → badT T.a_BadTransaction [.tuple [a, b, c]] T.a_BadTransaction := fun h => badT_of (by
      rw [Bool.eq_false_iff]
      intro h2
      obtain ⟨c', p, d, e, h1, h2, h3, _⟩ := isTrans_tup h2
      injection e with e
      have : isTup12 y = true := by
        rw [e] at hm
        simp only [List.mem_cons, List.not_mem_nil, or_false] at hm
        rcases hm with rfl | rfl | rfl <;> exact decide_eq_true (by assumption)
      rw [this] at h
      cases h)
    clear hy
    cases y
    case tuple ys =>
      walk_at "px"
      walk_at "pi"
      · intro h
        walk_at "px"
        exact bad (decide_eq_false (by omega))
      · intro h
        walk_at "px"
        refine nxt () (by walk_at "wk") rfl fun z hz => ?_
        rw [htk] at hz
        rcases List.mem_append.mp hz with hz | hz
        · exact hI z hz
        · rw [List.mem_singleton.mp hz]
          exact decide_eq_true (by omega)
    all_goals walk_at "px"
    all_goals exact bad rfl
  · obtain ⟨ca, rfl, la⟩ : ∃ xs, a = .tuple xs ∧ xs.length ≤ 12 := by
      have h := hI a (by simp)
      cases a with
      | tuple xs => exact ⟨xs, rfl, of_decide_eq_true h⟩
      | _ => cases h
    obtain ⟨cb, rfl, lb⟩ : ∃ xs, b = .tuple xs ∧ xs.length ≤ 12 := by
      have h := hI b (by simp)
      cases b with
      | tuple xs => exact ⟨xs, rfl, of_decide_eq_true h⟩
      | _ => cases h
    obtain ⟨cc, rfl, lc⟩ : ∃ xs, c = .tuple xs ∧ xs.length ≤ 12 := by
      have h := hI c (by simp)
      cases c with
      | tuple xs => exact ⟨xs, rfl, of_decide_eq_true h⟩
      | _ => cases h
    clear hI
    have ho : ∀ y ∈ ca ++ cb ++ cc, okx 8 y = true := fun y hy => by
      rw [List.mem_append, List.mem_append] at hy
      rcases hy with (hy | hy) | hy
      · exact okx_tup (okx_tup hx (x := .tuple ca) (by simp)) hy
      · exact okx_tup (okx_tup hx (x := .tuple cb) (by simp)) hy
      · exact okx_tup (okx_tup hx (x := .tuple cc) (by simp)) hy
    have ht : isTrans (.tuple [.tuple ca, .tuple cb, .tuple cc]) = (ca.all isCond && (cb.all isPut && (cc.all isDel && distD (cb.map put2 ++ cc)))) := by
      show (decide _ && (decide _ && (decide _ && _))) = _
      rw [decide_eq_true la, decide_eq_true lb, decide_eq_true lc]; rfl
    walk_at "px"
    refine we_lcM (by walk_at "ww") rfl ?_
    walk_at "px"
    refine ⟨fun x => .bool (isCond x), by omega, fun x hx => ?_, ?_⟩
    · have hx8 := ho x (by simp [hx])
      walk_at "pn"
      walk_at "px"
      exact rfl
    walk_at "px"
    refine cbP_all (bs := ca.map isCond) (by rw [List.map_map]; rfl) ?_
    walk_at "px"
    rw [all_map_id]
    walk_at "pi"
    · intro h
      walk_at "px"
      exact badT_of (by rw [ht, h, Bool.false_and])
    intro g1
    walk_at "px"
    refine we_lcM (by walk_at "ww") rfl ?_
    walk_at "px"
    refine ⟨fun x => .bool (isPut x), by omega, fun x hx => ?_, ?_⟩
    · have hx8 := ho x (by simp [hx])
      walk_at "pn"
      walk_at "px"
      exact rfl
    walk_at "px"
    refine cbP_all (bs := cb.map isPut) (by rw [List.map_map]; rfl) ?_
    walk_at "px"
    rw [all_map_id]
    walk_at "pi"
    · intro h
      walk_at "px"
      exact badT_of (by rw [ht, h, Bool.false_and, Bool.and_false])
    intro g2
    walk_at "px"
    refine we_lcM (by walk_at "ww") rfl ?_
    walk_at "px"
    refine ⟨fun x => .bool (isDel x), by omega, fun x hx => ?_, ?_⟩
    · have hx8 := ho x (by simp [hx])
      walk_at "pn"
      walk_at "px"
      exact rfl
    walk_at "px"
    refine cbP_all (bs := cc.map isDel) (by rw [List.map_map]; rfl) ?_
    walk_at "px"
    rw [all_map_id]
    walk_at "pi"
    · intro h
      walk_at "px"
      exact badT_of (by rw [ht, h, Bool.false_and, Bool.and_false, Bool.and_false])
    intro g3
    rw [g1, g2, g3] at ht
    walk_at "px"
    refine we_lcM (by walk_at "ww") rfl ?_
    walk_at "px"
    refine ⟨put2, by omega, fun x hx => ?_, ?_⟩
    · have hp := List.all_eq_true.mp g2 x hx
      cases x
      case tuple xs =>
        walk_at "pn"
        walk_at "px"
        exact rfl
      all_goals cases hp
    walk_at "px"
    refine opP_cat rfl rfl (by rw [List.length_map]; omega) ?_
    walk_at "px"
    refine ⟨⟨_, rfl, by rw [List.length_append, List.length_map]; omega, fun k hk => ?_⟩, ?_⟩
    · rcases List.mem_append.mp hk with hk | hk
      · obtain ⟨z, hz, rfl⟩ := List.mem_map.mp hk
        exact put_2S (List.all_eq_true.mp g2 z hz)
      · exact del_2S (List.all_eq_true.mp g3 k hk)
    walk_at "px"
    show ((!distD (cb.map put2 ++ cc)) = true → _) ∧ (_ → _)
    walk_at "pi"
    · intro h
      walk_at "px"
      exact badT_of (by rw [ht, show distD (cb.map put2 ++ cc) = false from decide_eq_false h]; rfl)
    · intro h
      walk_at "px"
      intro x e
      cases e
      exact ⟨by rw [ht, show distD (cb.map put2 ++ cc) = true from decide_eq_true h]; rfl, rfl⟩
end
/-! the store's methods -/
abbrev sbkQ : Str := "_sorted_by_key.<locals>.<lambda>"
section
variable {P : Program} {w : World} {K : PySem.W.Frag} {mg : Str → Option Value} {base : Heap}
theorem ok__sorted_by_key (T : TX K mg w) (TB : LamX.TabB base mg T.cc__sorted_by_key T.pp__sorted_by_key) : FnOk P w K mg base CX0 4 T.a__sorted_by_key T.d__sorted_by_key ["members"] (sp_sbk K T.pp__sorted_by_key sbkQ) := by
  refine okC T.F__sorted_by_key sc__sorted_by_key T.hc__sorted_by_key (fun vs H Q E h => ?_) fun A outer s H vs Q E hr h => ?_
  · obtain ⟨a, xs, bs, G, rfl, _⟩ := h
    rfl
  · obtain ⟨a, xs, bs, G, rfl, h1, h2, h3, h4, h5, h6, q⟩ := h
    refine ⟨_, (pss_one (ps_ret (pe_callTy (callK_tuple (K := K) rfl) (by rfl) T.n_tuple (by decide +kernel) (pa_cons (pe_sortL (q := sbkQ) hr (by rfl) T.n_sorted (pa_cons (pv 0) pa_nil) TB rfl (by show (Str.ofString "_sorted_by_key" ++ Str.ofString ".<locals>." ++ Str.ofString "<lambda>" : Str) = Str.ofString "_sorted_by_key.<locals>.<lambda>"; decide +kernel) (by rfl) (by rfl) rfl rfl rfl (by decide) (by rfl) (fun _ _ _ _ _ => rfl)) pa_nil)))), ?_⟩
    refine ⟨_, rfl, a, xs, bs, G, rfl, h1, h2, h3, h4, h5, h6, fun p H2 hE hG hT hp => ?_⟩
    refine ⟨p, _, rfl, .inl ⟨sql upd_same, fun l hl => ?_⟩⟩
    have e1 := extP_new (o := .lst ((sort2 xs bs).map Prod.fst)) hE hp
    have t1 := tabS_new (o := .lst ((sort2 xs bs).map Prod.fst)) hT hp
    exact q l _ (extP_new e1 hl) (tabG_new (tabG_new hG hp) hl) (tabS_new t1 hl) (extP_none e1 t1 hl) upd_same
abbrev sR (K : PySem.W.Frag) (T : TX K mg w) : MR SM := stoR K T.a_Store T.pp__sorted_by_key sbkQ
theorem ok_Store_entry (T : TX K mg w) : FnOk P w K mg base CX0 1 T.a_Store_entry T.d_Store_entry ["self", "kind", "name"] (spEnt K T.a_Store T.pp__sorted_by_key sbkQ) := by
  refine okM T.F_Store_entry sc_Store_entry 0 rfl (fun m ds ⟨x, y, e⟩ => by rw [e]; rfl) fun cdv A outer s H E hr => ⟨_, (pss_one (ps_ret (pe_dget1 (hu_of hr) (pe_fldK (K := K) rfl (pv 0) rfl) (pe_tup (pa_cons (pv 1) (pa_cons (pv 2) pa_nil))) ⟨rfl, rfl, rfl, rfl⟩))), fun m ds hd => ?_⟩
  obtain ⟨x, y, rfl⟩ := hd
  have kC := T.K_Store
  have n1 := T.na_Store__table
  walk_at "pn"
  walk_at "px"
  intro a b e
  cases e
  rfl
theorem ok_Store__holds (T : TX K mg w) : FnOk P w K mg base CX0 2 T.a_Store__holds T.d_Store__holds ["self", "kind", "name", "revision"] (spM (sR K T) K SM.s (fun m ds => ∃ x y r, ds = [.str x, .str y, .int r] ∧ ∀ d, lkD m.tab [.inr x, .inr y] = some d → ∃ b v c, d = .tuple [.int b, .int v, c]) (fun m ds r m' => m' = m ∧ ∀ x y i, ds = [.str x, .str y, .int i] → r = .d (.bool (match lkD m.tab [.inr x, .inr y] with | some (.tuple [_, .int v, _]) => decide (i = v) | _ => decide (i = 0)))) fun _ _ _ => False) := by
  refine okM T.F_Store__holds sc_Store__holds 1 rfl (fun m ds ⟨x, y, r, e, _⟩ => by rw [e]; rfl) fun cdv A outer s H E hr => ⟨_, (pss_cons (ps_set (i := 4) sc_Store__holds.nd rfl (Or.inl rfl) (pe_meth (pv 0) T.K_Store T.m_Store_entry (ok_Store_entry T) (hr.mono (by decide)) T.b_Store_entry .nil pass0 (pa_cons (pv 1) (pa_cons (pv 2) pa_nil))))
      (pss_cons (ps_if (pt_cmpR op_isN1 (pv 4) pe_non (nomark _)) (pss_one (ps_ret (pe_cmpR op_eq (pv 3) pe_int (nomark _)))) pss_nil)
      (pss_one (ps_ret (pe_cmpR op_eq (pv 3) (pe_ix (ixK_tup (K := K) rfl) (pv 4) pe_int (fun _ _ => rfl)) (nomark _)))))), fun m ds hd => ?_⟩
  obtain ⟨x, y, i, rfl, ht⟩ := hd
  have kC := T.K_Store
  have n1 := T.na_Store__table
  walk_at "pn"
  walk_at "px"
  cases hq : lkD m.tab [.inr x, .inr y] with
  | none =>
    dsimp only [Option.getD]
    walk_at "px"
    intro a b c e
    cases e
    rw [hq]
  | some d =>
    obtain ⟨b, v, c, rfl⟩ := ht d hq
    dsimp only [Option.getD]
    walk_at "px"
    intro a b c e
    cases e
    rw [hq]
/-- the entries of a table -/
def WfTab (tab : Tab) : Prop := ∀ k d, lkD tab k = some d → ∃ b v c, d = .tuple [.int b, .int v, c]
def bornOf (tab : Tab) (k : List Key) (rev : Int) : PyData := match lkD tab k with
  | some (.tuple [b, _, _]) => b
  | _ => .int rev
def put1 (rev : Int) (tab : Tab) : PyData → Tab
  | .tuple [.str k, .str n, v] => putD tab [.inr k, .inr n] (.tuple [bornOf tab [.inr k, .inr n] rev, .int rev, v])
  | _ => tab
def putAll (rev : Int) (tab : Tab) (ps : List PyData) : Tab := ps.foldl (put1 rev) tab
def delAll (tab : Tab) (ds : List PyData) : Tab := ds.foldl (fun t d => dropD t (keyOf d)) tab
def chg (m : SM) (ps ds : List PyData) : SM := { m with rev := m.rev + 1, tab := delAll (putAll (m.rev + 1) m.tab ps) ds, chs := m.chs ++ [.tuple [.int (m.rev + 1), .tuple (sortD ps), .tuple (sortD ds)]] }
/-- puts and deletes that a store can do -/
structure CanDo (m : SM) (ps ds : List PyData) : Prop where
  wf : WfTab m.tab
  lt : m.tab.length + ps.length < 90000
  lc : m.chs.length < 90000
  lp : ps.length ≤ 90000
  ld : ds.length ≤ 90000
  p : ∀ p ∈ ps, ∃ k n v, p = .tuple [.str k, .str n, v]
  d : ∀ d ∈ ds, is2S d
  g : ∀ (i : Nat) (d : PyData), ds[i]? = some d → (lkD (delAll (putAll (m.rev + 1) m.tab ps) (ds.take i)) (keyOf d)).isSome = true
theorem lk_cons {z : List Key × PyData} {tab : Tab} {j : List Key} : lkD (z :: tab) j = if z.1 = j then some z.2 else lkD tab j := by
  unfold lkD
  rw [List.find?_cons]
  by_cases e : z.1 = j
  · rw [decide_eq_true e, if_pos e]; rfl
  · rw [decide_eq_false e, if_neg e]
theorem lk_set {k j : List Key} {d : PyData} : ∀ {tab : Tab}, (tab.any fun z => decide (z.1 = k)) = true → lkD (tab.map fun z => if z.1 = k then (z.1, d) else z) j = if j = k then some d else lkD tab j
  | [], h => by cases h
  | z :: tab, h => by
    rw [List.map_cons, lk_cons, lk_cons]
    by_cases e : z.1 = k
    · rw [if_pos e]
      show (if z.1 = j then some d else _) = _
      by_cases e2 : j = k
      · rw [if_pos e2, if_pos (e.trans e2.symm)]
      · rw [if_neg e2, if_neg (fun y => e2 (y.symm.trans e)), if_neg (fun y => e2 (y.symm.trans e))]
        have keep : ∀ l : Tab, lkD (l.map fun z => if z.1 = k then (z.1, d) else z) j = lkD l j := fun l => by
          induction l with
          | nil => rfl
          | cons y l ih =>
            rw [List.map_cons, lk_cons, lk_cons, ih]
            by_cases e3 : y.1 = k
            · rw [if_pos e3]
              show (if y.1 = j then some d else _) = _
              rw [if_neg (fun u => e2 (u.symm.trans e3)), if_neg (fun u => e2 (u.symm.trans e3))]
            · rw [if_neg e3]
        exact keep tab
    · rw [if_neg e]
      have h' : (tab.any fun z => decide (z.1 = k)) = true := by
        rw [List.any_cons, decide_eq_false e, Bool.false_or] at h; exact h
      rw [lk_set h']
      by_cases e2 : j = k
      · rw [if_pos e2, if_neg (fun y => e (y.trans e2)), if_pos e2]
      · rw [if_neg e2, if_neg e2]
theorem lk_app {k j : List Key} {d : PyData} : ∀ {tab : Tab}, (tab.any fun z => decide (z.1 = k)) = false → lkD (tab ++ [(k, d)]) j = if j = k then some d else lkD tab j
  | [], _ => by
    rw [List.nil_append, lk_cons]
    by_cases e : j = k
    · rw [if_pos e, if_pos e.symm]
    · rw [if_neg e, if_neg (fun y => e y.symm)]
  | z :: tab, h => by
    rw [List.any_cons, Bool.or_eq_false_iff] at h
    have e := of_decide_eq_false h.1
    rw [List.cons_append, lk_cons, lk_cons, lk_app h.2]
    by_cases e2 : j = k
    · rw [if_pos e2, if_neg (fun y => e (y.trans e2)), if_pos e2]
    · rw [if_neg e2, if_neg e2]
theorem lk_put {tab : Tab} {k j : List Key} {d : PyData} : lkD (putD tab k d) j = if j = k then some d else lkD tab j := by
  unfold putD
  split
  · next h => exact lk_set h
  · next h => exact lk_app (Bool.eq_false_iff.mpr h)
theorem lk_drop {k j : List Key} : ∀ {tab : Tab}, lkD (dropD tab k) j = if j = k then none else lkD tab j
  | [] => by split <;> rfl
  | z :: tab => by
    unfold dropD
    rw [List.filter_cons]
    by_cases e : z.1 = k
    · rw [if_neg (by simp [e])]
      show lkD (dropD tab k) j = _
      rw [lk_drop, lk_cons]
      by_cases e2 : j = k
      · rw [if_pos e2, if_pos e2]
      · rw [if_neg e2, if_neg e2, if_neg (fun y => e2 (y.symm.trans e))]
    · rw [if_pos (by simp [e]), lk_cons]
      show (if z.1 = j then some z.2 else lkD (dropD tab k) j) = _
      rw [lk_drop, lk_cons]
      by_cases e2 : j = k
      · rw [if_pos e2, if_neg (fun y => e (y.trans e2)), if_pos e2]
      · rw [if_neg e2, if_neg e2]
theorem wf_put {tab : Tab} {k : List Key} {b v : Int} {c : PyData} (h : WfTab tab) : WfTab (putD tab k (.tuple [.int b, .int v, c])) := fun j d e => by
  rw [lk_put] at e
  split at e
  · cases e; exact ⟨b, v, c, rfl⟩
  · exact h j d e
theorem wf_drop {tab : Tab} {k : List Key} (h : WfTab tab) : WfTab (dropD tab k) := fun j d e => by
  rw [lk_drop] at e
  split at e
  · cases e
  · exact h j d e
theorem put_len {tab : Tab} {k : List Key} {d : PyData} : (putD tab k d).length ≤ tab.length + 1 := by
  unfold putD
  split
  · rw [List.length_map]; omega
  · rw [List.length_append]; exact Nat.le_refl _
theorem ok_Store__change (T : TX K mg w) (TB : LamX.TabB base mg T.cc__sorted_by_key T.pp__sorted_by_key) : FnOk P w K mg base CX0 5 T.a_Store__change T.d_Store__change ["self", "puts", "deletes"] (spM (sR K T) K SM.s (fun m ds => ∃ ps dl, ds = [.tuple ps, .tuple dl] ∧ CanDo m ps dl) (fun m ds r m' => ∀ ps dl, ds = [.tuple ps, .tuple dl] → r = .d .none ∧ m' = chg m ps dl) fun _ _ _ => False) := by
  refine okM T.F_Store__change sc_Store__change 6 rfl (fun m ds ⟨x, y, e, _⟩ => by rw [e]; rfl) fun cdv A outer s H E hr => ⟨_, (pss_cons (psK_fldaug (K := K) rfl (pv 0) pe_int in_add)
      (pss_cons (ps_for PassesOwn.never rfl (piK_tup (K := K) rfl (pv 1)) (pgK_tup (K := K) (n := 3) rfl rfl (pgs_cons (pg_name (i := 3) sc_Store__change.nd rfl (Or.inl rfl)) (pgs_cons (pg_name (i := 4) sc_Store__change.nd rfl (Or.inl rfl)) (pgs_cons (pg_name (i := 5) sc_Store__change.nd rfl (Or.inl rfl)) pgs_nil))))
        (pss_cons (ps_set (i := 6) sc_Store__change.nd rfl (Or.inl rfl) (pe_meth (pv 0) T.K_Store T.m_Store_entry (ok_Store_entry T) (hr.mono (by decide)) T.b_Store_entry .nil pass0 (pa_cons (pv 3) (pa_cons (pv 4) pa_nil))))
        (pss_cons (ps_set (i := 7) sc_Store__change.nd rfl (Or.inl rfl) (pe_ifExp (pt_cmpR op_isN1 (pv 6) pe_non (nomark _)) (pe_fldK (K := K) rfl (pv 0) rfl) (pe_ix (ixK_tup (K := K) rfl) (pv 6) pe_int (fun _ _ => rfl))))
        (pss_one (ps_dput (hu_of hr) (pe_fldK (K := K) rfl (pv 0) rfl) (pe_tup (pa_cons (pv 3) (pa_cons (pv 4) pa_nil))) (pe_tup (pa_cons (pv 7) (pa_cons (pe_fldK (K := K) rfl (pv 0) rfl) (pa_cons (pv 5) pa_nil)))) rfl)))))
      (pss_cons (ps_for PassesOwn.never rfl (piK_tup (K := K) rfl (pv 2)) (pg_name (i := 8) sc_Store__change.nd rfl (Or.inl rfl))
        (pss_one (ps_ddelT (hu_of hr) (pe_fldK (K := K) rfl (pv 0) rfl) (pv 8))))
      (pss_one (ps_expr (peK_bm (K := K) rfl PySem.F.plainAttrs_list PySem.F.slot_list_append PySem.F.type_list_append mt_append (pe_fldK (K := K) rfl (pv 0) rfl) (pa_cons (pe_tup (pa_cons (pe_fldK (K := K) rfl (pv 0) rfl) (pa_cons (pe_call (ok__sorted_by_key T TB) (hr.mono (by decide)) (by rfl) T.g__sorted_by_key T.F__sorted_by_key.kp T.b__sorted_by_key .nil pass0 (pa_cons (pv 1) pa_nil)) (pa_cons (pe_call (ok__sorted_by_key T TB) (hr.mono (by decide)) (by rfl) T.g__sorted_by_key T.F__sorted_by_key.kp T.b__sorted_by_key .nil pass0 (pa_cons (pv 2) pa_nil)) pa_nil)))) pa_nil))))))), fun m ds hd => ?_⟩
  obtain ⟨ps, dl, rfl, hc⟩ := hd
  have kC := T.K_Store
  have n1 := T.na_Store__table
  have n2 := T.na_Store_revision
  have n3 := T.na_Store__changes
  walk_at "pn"
  walk_at "px"
  refine ws_for ?_
  walk_at "px"
  refine ⟨SM, fun _ => [.v (.ref m.s), .d (.tuple ps), .d (.tuple dl), .u, .u, .u, .u, .u, .u], fun s => s, fun i s => s = { m with rev := m.rev + 1, tab := putAll (m.rev + 1) m.tab (ps.take i) } ∧ WfTab s.tab ∧ s.tab.length ≤ m.tab.length + i, nxt { m with rev := m.rev + 1 } (by walk_at "wk") rfl ⟨rfl, hc.wf, Nat.le_refl _⟩, fun i x s hx hI => ?_, fun s hI => ?_⟩
  · obtain ⟨rfl, hw, hl⟩ := hI
    obtain ⟨k, n, v, rfl⟩ := hc.p x (List.mem_of_getElem? hx)
    have hi := (List.getElem?_eq_some_iff.mp hx).1
    have hlt := hc.lt
    have htk : putAll (m.rev + 1) m.tab (ps.take (i + 1)) = put1 (m.rev + 1) (putAll (m.rev + 1) m.tab (ps.take i)) (.tuple [.str k, .str n, v]) := by
      rw [take_succ_app hx]
      unfold putAll
      rw [List.foldl_append]
      rfl
    generalize hT : putAll (m.rev + 1) m.tab (ps.take i) = tb at *
    have hw' : WfTab tb := hw
    have hl' : tb.length ≤ m.tab.length + i := hl
    have hl2 : tb.length < 90000 := by omega
    walk_at "pn"
    walk_at "px"
    cases hq : lkD tb [.inr k, .inr n] with
    | none =>
      have e1 : put1 (m.rev + 1) tb (.tuple [.str k, .str n, v]) = putD tb [.inr k, .inr n] (.tuple [.int (m.rev + 1), .int (m.rev + 1), v]) := by
        show putD tb _ (.tuple [bornOf tb _ _, _, v]) = _
        unfold bornOf
        rw [hq]
      dsimp only [Option.getD]
      walk_at "px"
      refine nxt _ (by walk_at "wk") rfl ⟨?_, wf_put hw', Nat.le_trans put_len (Nat.succ_le_succ hl')⟩
      rw [htk, e1]
    | some d =>
      obtain ⟨b, u, c, rfl⟩ := hw' _ d hq
      have e1 : put1 (m.rev + 1) tb (.tuple [.str k, .str n, v]) = putD tb [.inr k, .inr n] (.tuple [.int b, .int (m.rev + 1), v]) := by
        show putD tb _ (.tuple [bornOf tb _ _, _, v]) = _
        unfold bornOf
        rw [hq]
      dsimp only [Option.getD]
      walk_at "px"
      refine nxt _ (by walk_at "wk") rfl ⟨?_, wf_put hw', Nat.le_trans put_len (Nat.succ_le_succ hl')⟩
      rw [htk, e1]
  · obtain ⟨rfl, hw, hl⟩ := hI
    rw [List.take_length] at *
    walk_at "pn"
    walk_at "px"
    refine ws_for ?_
    walk_at "px"
    refine ⟨SM, fun _ => [.v (.ref m.s), .d (.tuple ps), .d (.tuple dl), .u, .u, .u, .u, .u, .u], fun s => s, fun i s => s = { m with rev := m.rev + 1, tab := delAll (putAll (m.rev + 1) m.tab ps) (dl.take i) }, nxt _ (by walk_at "wk") rfl rfl, fun i x s hx hI => ?_, fun s hI => ?_⟩
    · obtain rfl := hI
      obtain ⟨a, b, rfl⟩ := hc.d x (List.mem_of_getElem? hx)
      have hg : (lkD (delAll (putAll (m.rev + 1) m.tab ps) (dl.take i)) [.inr a, .inr b]).isSome = true := hc.g i _ hx
      have htk : delAll (putAll (m.rev + 1) m.tab ps) (dl.take (i + 1)) = dropD (delAll (putAll (m.rev + 1) m.tab ps) (dl.take i)) [.inr a, .inr b] := by
        rw [take_succ_app hx]
        unfold delAll
        rw [List.foldl_append]
        rfl
      walk_at "pn"
      walk_at "px"
      refine nxt _ (by walk_at "wk") rfl ?_
      show _ = ({ m with rev := m.rev + 1, tab := delAll (putAll (m.rev + 1) m.tab ps) (dl.take (i + 1)) } : SM)
      rw [htk]
    · obtain rfl := hI
      rw [List.take_length] at *
      have hlc := hc.lc
      have t1 : ∀ d ∈ ps, Two d := fun d hd => by obtain ⟨k, n, v, rfl⟩ := hc.p d hd; exact ⟨k, n, _, rfl⟩
      have t2 : ∀ d ∈ dl, Two d := fun d hd => by obtain ⟨k, n, rfl⟩ := hc.d d hd; exact ⟨k, n, _, rfl⟩
      walk_at "pn"
      walk_at "px"
      intro ps' dl' e
      cases e
      exact ⟨rfl, rfl⟩
end
/-! apply -/
def holdB (tab : Tab) : PyData → Bool
  | .tuple [.str x, .str y, .int i] => match lkD tab [.inr x, .inr y] with
    | some (.tuple [_, .int v, _]) => decide (i = v)
    | _ => decide (i = 0)
  | _ => false
def hasB (tab : Tab) (d : PyData) : Bool := (lkD tab (keyOf d)).isSome
def heldL (tab : Tab) (cs dl : List PyData) : List Bool := cs.map (holdB tab) ++ dl.map (hasB tab)
/-- a store that has room -/
structure StoOk (m : SM) : Prop where
  wf : WfTab m.tab
  lt : m.tab.length < 80000
  lc : m.chs.length < 80000
def newSt (m : SM) (ps dl : List PyData) : SM := if ps.isEmpty && dl.isEmpty then m else chg m ps dl
def Ans (m : SM) (cs ps dl : List PyData) (r : Rk) (m' : SM) : Prop :=
  ((heldL m.tab cs dl).all id = true → m' = newSt m ps dl ∧ r = .d (.tuple [.str "done", .int m'.rev])) ∧
  ((heldL m.tab cs dl).all id = false → m' = m ∧ ∃ j : Nat, r = .d (.tuple [.str "no", .int j]) ∧ (heldL m.tab cs dl)[j]? = some false ∧ ∀ i : Nat, i < j → (heldL m.tab cs dl)[i]? ≠ some false)
theorem cond_3 {x : PyData} (h : isCond x = true) : ∃ a b i, x = .tuple [.str a, .str b, .int i] := by
  unfold isCond at h
  split at h
  · rename_i k n r
    rw [Bool.and_eq_true] at h
    obtain ⟨a, b, rfl, rfl⟩ := ky_str h.1
    cases r <;> first | exact ⟨a, b, _, rfl⟩ | (cases h.2)
  · cases h
theorem put_3 {x : PyData} (h : isPut x = true) : ∃ k n v, x = .tuple [.str k, .str n, v] := by
  unfold isPut at h
  split at h
  · rename_i k n v
    have hk : isKy k n = true := ((Bool.and_eq_true _ _).mp h).1
    obtain ⟨a, b, rfl, rfl⟩ := ky_str hk; exact ⟨a, b, v, rfl⟩
  · cases h
theorem lk_putAll {k : List Key} {rev : Int} : ∀ {ps : List PyData} {tab : Tab}, (lkD tab k).isSome = true → (lkD (putAll rev tab ps) k).isSome = true
  | [], _, h => h
  | p :: ps, tab, h => by
    show (lkD (putAll rev (put1 rev tab p) ps) k).isSome = true
    refine lk_putAll ?_
    unfold put1
    split
    · rw [lk_put]; split
      · rfl
      · exact h
    · exact h
theorem lk_delAll {k : List Key} : ∀ {dl : List PyData} {tab : Tab}, k ∉ dl.map keyOf → lkD (delAll tab dl) k = lkD tab k
  | [], _, _ => rfl
  | d :: dl, tab, h => by
    rw [List.map_cons, List.mem_cons, not_or] at h
    show lkD (delAll (dropD tab (keyOf d)) dl) k = _
    rw [lk_delAll h.2, lk_drop, if_neg h.1]
theorem nodup_at {α : Type} {l : List α} {i : Nat} {x : α} (h : l.Nodup) (hx : l[i]? = some x) : x ∉ l.take i := by
  intro hm
  obtain ⟨j, hj⟩ := List.getElem?_of_mem hm
  have hji := (List.getElem?_eq_some_iff.mp hj).1
  rw [List.length_take] at hji
  rw [List.getElem?_take_of_lt (by omega)] at hj
  have h1 := (List.getElem?_eq_some_iff.mp hx)
  have h2 := (List.getElem?_eq_some_iff.mp hj)
  have := (List.getElem_inj h (h₀ := h2.1) (h₁ := h1.1)).mp (h2.2.trans h1.2.symm)
  omega
theorem canDo_of {m : SM} {p d : List PyData} (hm : StoOk m) (hp : p.length ≤ 12) (hd : d.length ≤ 12) (h1 : p.all isPut = true) (h2 : d.all isDel = true) (h3 : distD (p.map put2 ++ d) = true) (hh : ∀ x ∈ d, hasB m.tab x = true) : CanDo m p d where
  wf := hm.wf
  lt := by have := hm.lt; omega
  lc := by have := hm.lc; omega
  lp := by omega
  ld := by omega
  p := fun x hx => put_3 (List.all_eq_true.mp h1 x hx)
  d := fun x hx => del_2S (List.all_eq_true.mp h2 x hx)
  g := fun i x hx => by
    have hN : ((p.map put2 ++ d).map keyOf).Nodup := of_decide_eq_true h3
    rw [List.map_append] at hN
    have hN2 := (List.nodup_append.mp hN).2.1
    have hk : (d.map keyOf)[i]? = some (keyOf x) := by rw [List.getElem?_map, hx]; rfl
    have := nodup_at hN2 hk
    rw [← List.map_take] at this
    rw [lk_delAll this]
    exact lk_putAll (hh x (List.mem_of_getElem? hx))
theorem okx_bools : ∀ bs : List Bool, bs.length ≤ 1000 → okx 8 (.list (bs.map .bool)) = true := fun bs hl => by
  unfold okx
  rw [Bool.and_eq_true, List.all_eq_true]
  refine ⟨decide_eq_true (by rw [List.length_map]; omega), fun d hd => ?_⟩
  obtain ⟨b, _, rfl⟩ := List.mem_map.mp hd
  rfl
theorem any_false (bs : List Bool) : ((bs.map .bool).any fun z => PyData.eqv z (.bool false)) = !bs.all id := by
  induction bs with
  | nil => rfl
  | cons b bs ih =>
    rw [List.map_cons, List.any_cons, List.all_cons, ih]
    cases b <;> rfl
theorem first_false : ∀ {bs : List Bool}, bs.all id = false → ∃ j : Nat, bs[j]? = some false ∧ ∀ i : Nat, i < j → bs[i]? ≠ some false
  | [], h => by cases h
  | false :: bs, _ => ⟨0, rfl, fun i hi => by omega⟩
  | true :: bs, h => by
    rw [List.all_cons] at h
    obtain ⟨j, h1, h2⟩ := first_false (bs := bs) (by simpa using h)
    exact ⟨j + 1, h1, fun i hi => by
      cases i with
      | zero => intro z; cases z
      | succ i => exact h2 i (by omega)⟩
section
variable {P : Program} {w : World} {K : PySem.W.Frag} {mg : Str → Option Value} {base : Heap}
theorem ok_Store_apply (T : TX K mg w) (TB : LamX.TabB base mg T.cc__sorted_by_key T.pp__sorted_by_key) : FnOk P w K mg base (L2.CX P w) 8 T.a_Store_apply T.d_Store_apply ["self", "transaction"] (spM (sR K T) K SM.s (fun m ds => ∃ x, ds = [x] ∧ okx 8 x = true ∧ isTrans x = true ∧ StoOk m) (fun m ds r m' => ∀ cs ps dl, ds = [.tuple [.tuple cs, .tuple ps, .tuple dl]] → Ans m cs ps dl r m') fun _ _ _ => False) := by
  refine okMX T.F_Store_apply sc_Store_apply 8 rfl (fun m ds ⟨x, e, _⟩ => by rw [e]; rfl) fun cdv A outer s H E hr => ⟨_, (pss_cons (ps_expr (pe_call (ok_check_transaction T) (hr.mono (by decide)) (by rfl) T.g_check_transaction T.F_check_transaction.kp T.b_check_transaction .nil (passes_call (takes_of rfl rfl rfl rfl) (fun _ _ _ _ h => h)) (pa_cons (pv 1) pa_nil)))
      (pss_cons (ps_asg (pv 1) (pgK_tup (K := K) (n := 3) rfl rfl (pgs_cons (pg_name (i := 2) sc_Store_apply.nd rfl (Or.inl rfl)) (pgs_cons (pg_name (i := 3) sc_Store_apply.nd rfl (Or.inl rfl)) (pgs_cons (pg_name (i := 4) sc_Store_apply.nd rfl (Or.inl rfl)) pgs_nil)))))
      (pss_cons (ps_setLc (i := 5) (own := [("kind", 6), ("name", 7), ("revision", 8)])  (tt := tYes) (by rfl) sc_Store_apply.nd rfl rfl (sw_true rfl rfl rfl (by decide +kernel)) (piK_tup (K := K) rfl (pv 2)) (blkOk_by (own := [("kind", 6), ("name", 7), ("revision", 8)]) (N := ["self", "transaction", "conditions", "puts", "deletes", "holds", "kind", "name", "revision", "key"]) (sc := defScope s_Store_apply) (by decide +kernel)) (fun _ _ _ _ _ => (pgK_tup (K := K) (n := 3) rfl rfl (pgs_cons (pg_name (i := 6) sc_Store_apply.nd rfl (Or.inl rfl)) (pgs_cons (pg_name (i := 7) sc_Store_apply.nd rfl (Or.inl rfl)) (pgs_cons (pg_name (i := 8) sc_Store_apply.nd rfl (Or.inl rfl)) pgs_nil))))) (fun _ _ _ _ _ => pts_nil) (fun _ _ _ _ _ => (pe_meth (pv 0) T.K_Store T.m_Store__holds (ok_Store__holds T) (hr.mono (by decide)) T.b_Store__holds .nil pass0 (pa_cons (pv 6) (pa_cons (pv 7) (pa_cons (pv 8) pa_nil))))))
      (pss_cons (ps_expr (peK_bm (K := K) rfl PySem.F.plainAttrs_list PySem.F.slot_list_extend PySem.F.type_list_extend mt_extend (pv 5) (pa_cons (pe_lc (own := [("key", 9)]) (g := gName 9) (tt := tYes) (by rfl) sc_Store_apply.nd (piK_tup (K := K) rfl (pv 4)) (blkOk_by (own := [("key", 9)]) (N := ["self", "transaction", "conditions", "puts", "deletes", "holds", "kind", "name", "revision", "key"]) (sc := defScope s_Store_apply) (by decide +kernel)) (fun _ _ _ _ _ => pg_name (i := 9) sc_Store_apply.nd rfl (Or.inl rfl)) (fun _ _ _ _ _ => pts_nil) (fun _ _ _ _ _ => (pe_cmp (pc_din (hu_of hr) (pv 9) (pe_fldK (K := K) rfl (pv 0) rfl)) rfl))) pa_nil)))
      (pss_cons (ps_if (pt_cmpR (opK_inD (K := K) rfl (hu65 hr)) pe_bl (pv 5) rfl) (pss_one (ps_ret (pe_tup (pa_cons pe_str (pa_cons (peK_bm (K := K) rfl PySem.F.plainAttrs_list PySem.F.slot_list_index PySem.F.type_list_index (mtK_index (K := K) rfl) (pv 5) (pa_cons pe_bl pa_nil)) pa_nil))))) pss_nil)
      (pss_cons (ps_if (PW.pt (pw_or (ptK_truth (K := K) rfl (pv 3) (by intro _; rfl)) (pw_or1 (ptK_truth (K := K) rfl (pv 4) (by intro _; rfl))))) (pss_one (ps_expr (pe_meth (pv 0) T.K_Store T.m_Store__change (ok_Store__change T TB) (hr.mono (by decide)) T.b_Store__change .nil pass0 (pa_cons (pv 3) (pa_cons (pv 4) pa_nil))))) pss_nil)
      (pss_one (ps_ret (pe_tup (pa_cons pe_str (pa_cons (pe_fldK (K := K) rfl (pv 0) rfl) pa_nil))))))))))), fun m ds hd => ?_⟩
  obtain ⟨x, rfl, ho, ht, hs⟩ := hd
  obtain ⟨c, p, d, rfl, c1, c2, c3, c4, c5, c6, c7⟩ := isTrans_tup ht
  have kC := T.K_Store
  have n1 := T.na_Store__table
  have n2 := T.na_Store_revision
  have n3 := T.na_Store__changes
  walk_at "pn"
  walk_at "px"
  refine we_callX ?_
  walk_at "px"
  refine ⟨fun C ⟨y, e, hb, _⟩ => (by cases e; rw [ht] at hb; cases hb), fun r _ => ?_⟩
  walk_at "px"
  refine we_lcM (by walk_at "ww") rfl ?_
  walk_at "px"
  refine ⟨fun x => .bool (holdB m.tab x), by omega, fun x hx => ?_, ?_⟩
  · obtain ⟨a, b, i, rfl⟩ := cond_3 (List.all_eq_true.mp c4 x hx)
    walk_at "px"
    refine we_meth (at_ := SM.s) (clsS fun _ => rfl) rfl ?_
    walk_at "px"
    refine ⟨⟨a, b, i, rfl, fun e he => hs.wf _ e he⟩, fun _ z => z, fun r m2 ⟨e1, e2⟩ => ?_⟩
    walk_at "px"
    try (refine ⟨e1, ?_⟩)
    rw [e2 a b i rfl]
    rfl
  walk_at "pn"
  walk_at "px"
  refine we_lcM (by walk_at "ww") rfl ?_
  walk_at "px"
  refine ⟨fun x => .bool (hasB m.tab x), by omega, fun x hx => ?_, ?_⟩
  · obtain ⟨a, b, rfl⟩ := del_2S (List.all_eq_true.mp c6 x hx)
    walk_at "px"
    rfl
  walk_at "px"
  have eL : List.map (fun x => PyData.bool (holdB m.tab x)) c ++ List.map (fun x => PyData.bool (hasB m.tab x)) d = (heldL m.tab c d).map .bool := by
    unfold heldL
    rw [List.map_append, List.map_map, List.map_map]
    rfl
  have hl : (heldL m.tab c d).length ≤ 24 := by
    unfold heldL
    rw [List.length_append, List.length_map, List.length_map]
    omega
  refine ⟨by rw [List.length_map, List.length_map]; omega, ?_⟩
  rw [eL]
  have hall : ∀ x ∈ d, (heldL m.tab c d).all id = true → hasB m.tab x = true := fun x hx ha => List.all_eq_true.mp ha _ (List.mem_append.mpr (.inr (List.mem_map_of_mem hx)))
  have hans : ∀ r m', ((heldL m.tab c d).all id = true → m' = newSt m p d ∧ r = .d (.tuple [.str "done", .int m'.rev])) ∧ ((heldL m.tab c d).all id = false → m' = m ∧ ∃ j : Nat, r = .d (.tuple [.str "no", .int j]) ∧ (heldL m.tab c d)[j]? = some false ∧ ∀ i : Nat, i < j → (heldL m.tab c d)[i]? ≠ some false) → Ans m c p d r m' := fun _ _ h => h
  generalize heldL m.tab c d = bs at *
  have hso := okx_bools bs (by omega)
  walk_at "pn"
  walk_at "px"
  rw [any_false]
  cases hb : bs.all id with
  | false =>
    obtain ⟨j, hj, hn⟩ := first_false hb
    refine ⟨fun _ => ?_, fun z => (by cases z)⟩
    walk_at "px"
    refine we_idxF ?_
    walk_at "px"
    exact j
    refine ⟨hj, hn, ?_⟩
    walk_at "px"
    intro cs ps dl e
    cases e
    exact hans _ _ ⟨fun z => (by rw [hb] at z; cases z), fun _ => ⟨rfl, _, rfl, hj, hn⟩⟩
  | true =>
    refine ⟨fun z => (by cases z), fun _ => ?_⟩
    have hcd : CanDo m p d := canDo_of hs c2 c3 c5 c6 c7 fun x hx => hall x hx hb
    cases p with
    | nil =>
      cases d with
      | nil =>
        walk_at "px"
        intro cs ps dl e
        cases e
        exact hans _ _ ⟨fun _ => ⟨rfl, rfl⟩, fun z => (by rw [hb] at z; cases z)⟩
      | cons y d =>
        walk_at "px"
        refine we_meth (at_ := SM.s) (clsS fun _ => rfl) rfl ?_
        walk_at "px"
        refine ⟨⟨_, _, rfl, hcd⟩, fun _ z => z, fun r m2 hq => ?_⟩
        obtain ⟨rfl, rfl⟩ := hq _ _ rfl
        walk_at "px"
        intro cs ps dl e
        cases e
        exact hans _ _ ⟨fun _ => ⟨rfl, rfl⟩, fun z => (by rw [hb] at z; cases z)⟩
    | cons y p =>
      walk_at "px"
      refine we_meth (at_ := SM.s) (clsS fun _ => rfl) rfl ?_
      walk_at "px"
      refine ⟨⟨_, _, rfl, hcd⟩, fun _ z => z, fun r m2 hq => ?_⟩
      obtain ⟨rfl, rfl⟩ := hq _ _ rfl
      walk_at "px"
      intro cs ps dl e
      cases e
      exact hans _ _ ⟨fun _ => ⟨rfl, rfl⟩, fun z => (by rw [hb] at z; cases z)⟩
end
/-! the store's entries -/
section
variable {P : Program} {w : World} {K : PySem.W.Frag} {mg : Str → Option Value} {base : Heap}
theorem ok_Store_entries (T : TX K mg w) : FnOk P w K mg base CX0 1 T.a_Store_entries T.d_Store_entries ["self"] (spM (stoR K T.a_Store T.pp__sorted_by_key sbkQ) K SM.s (fun m ds => ds = [] ∧ TabOk m.tab ∧ m.tab.length ≤ 80000) (fun m _ r m' => m' = m ∧ r = .o (entsD m.tab)) fun _ _ _ => False) := by
  refine okM T.F_Store_entries sc_Store_entries 1 rfl (fun m ds ⟨e, _⟩ => by rw [e]; rfl) fun cdv A outer s H E hr => ⟨_, (pss_one (ps_ret (pe_lc (own := [("key", 1)]) (g := gName 1) (tt := tYes) (by rfl) sc_Store_entries.nd (piK_list (K := K) rfl (pe_callB (call_sortKT rfl (Nat.lt_of_le_of_lt (Nat.add_le_add_left (by decide : 8 ≤ 65) _) (hu65 hr))) (by rfl) T.n_sorted (by decide +kernel) (pa_cons (pe_fldK (K := K) rfl (pv 0) rfl) pa_nil))) (blkOk_by (own := [("key", 1)]) (N := ["self", "key"]) (sc := defScope s_Store_entries) (by decide +kernel)) (fun _ _ _ _ _ => pg_name (i := 1) sc_Store_entries.nd rfl (Or.inl rfl)) (fun _ _ _ _ _ => pts_nil) (fun _ _ _ _ _ => (pe_op (opK_catA (K := K) rfl) (pv 1) (pe_dget (hu_of hr) (pe_fldK (K := K) rfl (pv 0) rfl) (pv 1) (fun _ _ => rfl))))))), fun m ds hd => ?_⟩
  obtain ⟨rfl, hT, hl⟩ := hd
  have kC := T.K_Store
  have n1 := T.na_Store__table
  walk_at "pn"
  refine ws_ret (we_ents kC n1 rfl (by decide) (Nat.le_refl 2) hT hl ⟨rfl, rfl⟩)
end

/-! # what holds of every store -/
theorem okx_in {n : Nat} {xs : List PyData} {x : PyData} (h : okx (n + 1) (.tuple xs) = true) (hx : x ∈ xs) : okx n x = true := by
  unfold okx at h
  rw [Bool.and_eq_true, List.all_eq_true] at h
  exact h.2 x hx
structure SI (m : SM) : Prop where
  nd : (m.tab.map Prod.fst).Nodup
  o : ∀ z ∈ m.tab, ∃ x y b v c, z = ([.inr x, .inr y], .tuple [.int b, .int v, c]) ∧ isObj (.str x) (.str y) c = true ∧ okx 6 (.tuple [.str x, .str y, c]) = true ∧ 1 ≤ b ∧ b ≤ v ∧ v ≤ m.rev
  r0 : 0 ≤ m.rev
  tl : m.tab.length ≤ 12 * m.rev.toNat
  cl : m.chs.length ≤ m.rev.toNat
theorem SI.tab {m : SM} (h : SI m) : TabOk m.tab where
  nd := h.nd
  k := fun z hz => by obtain ⟨x, y, b, v, c, rfl, _⟩ := h.o z hz; exact ⟨x, y, rfl⟩
  v := fun z hz => by obtain ⟨x, y, b, v, c, rfl, _⟩ := h.o z hz; exact ⟨b, v, c, rfl⟩
theorem SI.wf {m : SM} (h : SI m) : WfTab m.tab := fun k d e => by
  obtain ⟨x, y, b, v, c, e2, _⟩ := h.o _ (mem_lk e)
  cases e2
  exact ⟨b, v, c, rfl⟩
theorem SI.ok {m : SM} (h : SI m) (hr : m.rev ≤ 5000) : StoOk m := ⟨h.wf, by have := h.tl; have := h.r0; omega, by have := h.cl; have := h.r0; omega⟩
theorem SI.zero {s t c : Addr} : SI (sm0 s t c) := ⟨by simp [sm0], fun z hz => (by cases hz), Int.le_refl _, by simp [sm0], by simp [sm0]⟩
theorem put_keys {tab : Tab} {k : List Key} {d : PyData} (h : (tab.map Prod.fst).Nodup) : ((putD tab k d).map Prod.fst).Nodup := by
  unfold putD
  split
  · have : (tab.map (fun z => if z.1 = k then (z.1, d) else z)).map Prod.fst = tab.map Prod.fst := by
      rw [List.map_map]
      refine List.map_congr_left fun z _ => ?_
      show (if z.1 = k then (z.1, d) else z).1 = z.1
      split <;> rfl
    rw [this]; exact h
  · next hn =>
    rw [List.map_append, List.nodup_append]
    refine ⟨h, by simp, fun a ha b hb e => ?_⟩
    rw [List.map_singleton, List.mem_singleton] at hb
    obtain ⟨z, hz, e2⟩ := List.mem_map.mp ha
    exact hn (List.any_eq_true.mpr ⟨z, hz, decide_eq_true (by rw [e2, e, hb])⟩)
theorem put_mem {tab : Tab} {k : List Key} {d : PyData} {z : List Key × PyData} (h : z ∈ putD tab k d) : z = (k, d) ∨ z ∈ tab := by
  unfold putD at h
  split at h
  · obtain ⟨y, hy, e⟩ := List.mem_map.mp h
    by_cases hk : y.1 = k
    · rw [if_pos hk] at e; exact .inl (by rw [← e, hk])
    · rw [if_neg hk] at e; exact .inr (by rw [← e]; exact hy)
  · rcases List.mem_append.mp h with h | h
    · exact .inr h
    · exact .inl (List.mem_singleton.mp h)
theorem drop_keys {tab : Tab} {k : List Key} (h : (tab.map Prod.fst).Nodup) : ((dropD tab k).map Prod.fst).Nodup :=
  h.sublist ((List.filter_sublist).map _)
/-- the table part of it, for a revision n -/
def TI' (n : Int) (tab : Tab) : Prop := (tab.map Prod.fst).Nodup ∧ ∀ z ∈ tab, ∃ x y b v c, z = ([.inr x, .inr y], .tuple [.int b, .int v, c]) ∧ isObj (.str x) (.str y) c = true ∧ okx 6 (.tuple [.str x, .str y, c]) = true ∧ 1 ≤ b ∧ b ≤ v ∧ v ≤ n
theorem TI'.put {n : Int} {tab : Tab} (h : TI' n tab) (hn : 1 ≤ n) {p : PyData} (hp : isPut p = true) (ho : okx 6 p = true) : TI' n (put1 n tab p) := by
  unfold isPut at hp
  split at hp
  · rename_i k nm v
    have hk : isKy k nm = true := ((Bool.and_eq_true _ _).mp hp).1
    obtain ⟨x, y, rfl, rfl⟩ := ky_str hk
    show TI' n (putD tab [.inr x, .inr y] (.tuple [bornOf tab [.inr x, .inr y] n, .int n, v]))
    have hb : ∃ b, bornOf tab [.inr x, .inr y] n = .int b ∧ 1 ≤ b ∧ b ≤ n := by
      unfold bornOf
      cases hq : lkD tab [.inr x, .inr y] with
      | none => exact ⟨n, rfl, hn, Int.le_refl _⟩
      | some d =>
        obtain ⟨x', y', b, v, c, e, _, _, h1, h2, h3⟩ := h.2 _ (mem_lk hq)
        cases e
        exact ⟨b, rfl, h1, by omega⟩
    obtain ⟨b, eb, h1, h2⟩ := hb
    rw [eb]
    refine ⟨put_keys h.1, fun z hz => ?_⟩
    rcases put_mem hz with rfl | hz
    · exact ⟨x, y, b, n, v, rfl, hp, ho, h1, h2, Int.le_refl _⟩
    · exact h.2 z hz
  · cases hp
theorem TI'.putAll {n : Int} (hn : 1 ≤ n) : ∀ (ps : List PyData) (tab : Tab), TI' n tab → (∀ p ∈ ps, isPut p = true ∧ okx 6 p = true) → TI' n (putAll n tab ps)
  | [], _, h, _ => h
  | p :: ps, tab, h, hp => by
    have h1 := hp p (List.mem_cons_self ..)
    exact TI'.putAll hn ps _ (h.put hn h1.1 h1.2) fun q hq => hp q (List.mem_cons_of_mem _ hq)
theorem TI'.drop {n : Int} {tab : Tab} {k : List Key} (h : TI' n tab) : TI' n (dropD tab k) := ⟨drop_keys h.1, fun z hz => h.2 z (List.mem_filter.mp hz).1⟩
theorem TI'.delAll {n : Int} : ∀ {ds : List PyData} {tab : Tab}, TI' n tab → TI' n (delAll tab ds)
  | [], _, h => h
  | d :: ds, tab, h => TI'.delAll (ds := ds) (tab := dropD tab (keyOf d)) h.drop
theorem putAll_len {n : Int} : ∀ {ps : List PyData} {tab : Tab}, (putAll n tab ps).length ≤ tab.length + ps.length
  | [], _ => Nat.le_refl _
  | p :: ps, tab => by
    have h1 : (put1 n tab p).length ≤ tab.length + 1 := by
      unfold put1
      split
      · exact put_len
      · omega
    have h2 := putAll_len (n := n) (ps := ps) (tab := put1 n tab p)
    show (putAll n (put1 n tab p) ps).length ≤ _
    rw [List.length_cons]
    omega
theorem delAll_len : ∀ {ds : List PyData} {tab : Tab}, (delAll tab ds).length ≤ tab.length
  | [], _ => Nat.le_refl _
  | d :: ds, tab => Nat.le_trans (delAll_len (ds := ds) (tab := dropD tab (keyOf d))) (List.length_filter_le _ _)
theorem SI.chg {m : SM} (h : SI m) {cs ps dl : List PyData} (ht : isTrans (.tuple [.tuple cs, .tuple ps, .tuple dl]) = true) (ho : okx 8 (.tuple [.tuple cs, .tuple ps, .tuple dl]) = true) : SI (chg m ps dl) := by
  obtain ⟨c, p, d, e, c1, c2, c3, c4, c5, c6, c7⟩ := isTrans_tup ht
  cases e
  have h6 : okx 7 (.tuple ps) = true := okx_in ho (by simp)
  have hp : ∀ p ∈ ps, isPut p = true ∧ okx 6 p = true := fun p hp => ⟨List.all_eq_true.mp c5 p hp, okx_in h6 hp⟩
  have r0 := h.r0
  have hT : TI' (m.rev + 1) m.tab := ⟨h.nd, fun z hz => by
    obtain ⟨x, y, b, v, c, e, h1, h2, h3, h4, h5⟩ := h.o z hz
    exact ⟨x, y, b, v, c, e, h1, h2, h3, h4, by omega⟩⟩
  have hT2 : TI' (m.rev + 1) (delAll (putAll (m.rev + 1) m.tab ps) dl) := TI'.delAll (TI'.putAll (by omega) _ _ hT hp)
  refine ⟨hT2.1, hT2.2, by show 0 ≤ m.rev + 1; omega, ?_, ?_⟩
  · have h1 := delAll_len (ds := dl) (tab := putAll (m.rev + 1) m.tab ps)
    have h2 := putAll_len (n := m.rev + 1) (ps := ps) (tab := m.tab)
    have h3 := h.tl
    show (delAll (putAll (m.rev + 1) m.tab ps) dl).length ≤ 12 * (m.rev + 1).toNat
    omega
  · have h3 := h.cl
    show (m.chs ++ [_]).length ≤ (m.rev + 1).toNat
    rw [List.length_append]
    show m.chs.length + 1 ≤ _
    omega
theorem SI.new {m : SM} (h : SI m) {cs ps dl : List PyData} (ht : isTrans (.tuple [.tuple cs, .tuple ps, .tuple dl]) = true) (ho : okx 8 (.tuple [.tuple cs, .tuple ps, .tuple dl]) = true) : SI (newSt m ps dl) := by
  unfold newSt
  split
  · exact h
  · exact h.chg ht ho
/-- the entries as a row are data that can be compared -/
theorem SI.row {m : SM} (h : SI m) {r : PyData} (hr : r ∈ entsD m.tab) : ∃ x y b v c, r = .tuple [.str x, .str y, .int b, .int v, c] ∧ lkD m.tab [.inr x, .inr y] = some (.tuple [.int b, .int v, c]) ∧ isObj (.str x) (.str y) c = true ∧ okx 6 (.tuple [.str x, .str y, c]) = true ∧ 1 ≤ b ∧ b ≤ v ∧ v ≤ m.rev := by
  obtain ⟨z, hz, rfl⟩ := List.mem_map.mp hr
  have hm := srt_mem.mp hz
  obtain ⟨k, n, b, v, c, rfl, h1, h2, h3, h4, h5⟩ := h.o z hm
  exact ⟨k, n, b, v, c, rfl, lk_mem h.nd hm, h1, h2, h3, h4, h5⟩
theorem ents_len (tab : Tab) : (entsD tab).length = tab.length := by
  unfold entsD
  rw [List.length_map]; exact srt_len _
theorem okx_all {n : Nat} {xs : List PyData} (h : okx (n + 1) (.tuple xs) = true) : ∀ x ∈ xs, okx n x = true := fun _ => okx_in h
theorem okx_row {x y : Str} {b v : Int} {c : PyData} (h : okx 6 (.tuple [.str x, .str y, c]) = true) : okx 6 (.tuple [.str x, .str y, .int b, .int v, c]) = true := by
  refine okx_tup_of (by show 5 ≤ _; omega) fun z hz => ?_
  simp only [List.mem_cons, List.not_mem_nil, or_false] at hz
  rcases hz with rfl | rfl | rfl | rfl | rfl
  · exact okx_in h (by simp)
  · exact okx_in h (by simp)
  · rfl
  · rfl
  · exact okx_in h (by simp)
theorem SI.okE {m : SM} (h : SI m) (hr : m.rev ≤ 5000) : okx 8 (.list (entsD m.tab)) = true := by
  refine okx_lst_of (by rw [ents_len]; have := h.tl; have := h.r0; omega) fun r hr => ?_
  obtain ⟨x, y, b, v, c, rfl, _, _, h2, _⟩ := h.row hr
  exact okx_mono (n := 6) (by omega) (okx_row h2)
/-- an entry of the store -/
theorem SI.ent {m : SM} (h : SI m) {x y : Str} {d : PyData} (e : lkD m.tab [.inr x, .inr y] = some d) : ∃ b v c, d = .tuple [.int b, .int v, c] ∧ isObj (.str x) (.str y) c = true ∧ okx 6 (.tuple [.str x, .str y, c]) = true ∧ 1 ≤ b ∧ b ≤ v ∧ v ≤ m.rev := by
  obtain ⟨x', y', b, v, c, e2, h1⟩ := h.o _ (mem_lk e)
  cases e2
  exact ⟨b, v, c, rfl, h1⟩
theorem eqv_okE {n : Nat} {d : PyData} (h : okx n d = true) (hn : n ≤ 64 := by decide) : PyData.eqv d d = true := PySem.SeqAt.eqv_refl d (SeqAt.canLay_of_shaped (okx_sh h hn))
theorem okx_tupJ {n : Nat} {xs : List PyData} (hl : xs.length ≤ 1000) (h : ∀ x ∈ xs, okx n x = true) : okx (n + 1) (.tuple xs) = true := okx_tup_of (by omega) h
theorem okx_dn {v : Int} : okx 8 (.tuple [.str "done", .int v]) = true := by
  refine okx_tupJ (by show 2 ≤ 1000; omega) fun x hx => ?_
  simp only [List.mem_cons, List.not_mem_nil, or_false] at hx
  rcases hx with rfl | rfl
  · decide +kernel
  · rfl
theorem okx_no {v : Int} : okx 8 (.tuple [.str "no", .int v]) = true := by
  refine okx_tupJ (by show 2 ≤ 1000; omega) fun x hx => ?_
  simp only [List.mem_cons, List.not_mem_nil, or_false] at hx
  rcases hx with rfl | rfl
  · decide +kernel
  · rfl
section
variable {K : PySem.W.Frag} {C P : Addr} {q : Str} {E E' : XK} {XP : Addr → SM → Prop} {ρ : List Sl} {m : SM} {k : Rk → SM → Prop} {i : Nat}
abbrev spEnts (K : PySem.W.Frag) (C P : Addr) (q : Str) : Sp := spM (stoR K C P q) K SM.s (fun m ds => ds = [] ∧ TabOk m.tab ∧ m.tab.length ≤ 80000) (fun m _ r m' => m' = m ∧ r = .o (entsD m.tab)) fun _ _ _ => False
theorem we_entM (hi : ρ[i]? = some (.v (.ref m.s))) (hs : SI m) (hr : m.rev ≤ 5000) (hk : k (.o (entsD m.tab)) m) : WE (stoR K C P q) K E XP ρ m (tMeth C "entries" (spEnts K C P q) [] E' (tVar i) tNil) k :=
  we_meth (at_ := SM.s) (clsS fun _ => rfl) hi (wa_nil ⟨[], rfl, rfl, ⟨rfl, hs.tab, by have := hs.tl; have := hs.r0; omega⟩, fun _ z => z, fun r m2 ⟨e1, e2⟩ => by rw [e1, e2]; exact hk⟩)
end
theorem SI.entO {m : SM} (h : SI m) {x y : Str} {d : PyData} (e : lkD m.tab [.inr x, .inr y] = some d) : okx 8 d = true := by
  obtain ⟨b, v, c, rfl, _, h2, _⟩ := h.ent e
  refine okx_tupJ (by show 3 ≤ 1000; omega) fun z hz => ?_
  simp only [List.mem_cons, List.not_mem_nil, or_false] at hz
  rcases hz with rfl | rfl | rfl
  · rfl
  · rfl
  · exact okx_mono (n := 5) (by omega) (okx_in h2 (by simp))
/-! # the worker's transactions -/
abbrev tk8 (b t sz st sp nd lf zn : PyData) : PyData := .tuple [b, t, sz, st, sp, nd, lf, zn]
abbrev nd8 (size used life lost zone : PyData) : PyData := .tuple [size, used, life, lost, zone]
def trBeat (n : Str) (r life c : Int) : PyData := .tuple [.tuple [.tuple [.str "beat", .str n, .int r]], .tuple [.tuple [.str "beat", .str n, .tuple [.int life, .int (c + 1)]]], .tuple []]
def trStart (s : Str) (r : Int) (b t sz sp nd lf zn : PyData) : PyData := .tuple [.tuple [.tuple [.str "task", .str s, .int r]], .tuple [.tuple [.str "task", .str s, tk8 b t sz (.str "running") sp nd lf zn]], .tuple []]
def trEnd (s n : Str) (tr nr : Int) (b t : PyData) (sz : Int) (sp nd lf zn size : PyData) (used : Int) (life lost zone : PyData) : PyData := .tuple [.tuple [.tuple [.str "node", .str n, .int nr], .tuple [.str "task", .str s, .int tr]],
  .tuple [.tuple [.str "node", .str n, nd8 size (.int (used - sz)) life lost zone], .tuple [.str "task", .str s, tk8 b t (.int sz) (.str "ended") sp nd lf zn]], .tuple []]
def trEnr (n : Str) (size : Int) (zone : Str) (br nr used life : Int) : PyData := .tuple [.tuple [.tuple [.str "beat", .str n, .int br], .tuple [.str "node", .str n, .int nr]],
  .tuple [.tuple [.str "beat", .str n, .tuple [.int life, .int 0]], .tuple [.str "node", .str n, nd8 (.int size) (.int used) (.int life) (.int 0) (.str zone)]], .tuple []]
section
variable {P : Program} {w : World} {K : PySem.W.Frag} {mg : Str → Option Value} {base : Heap}
theorem ok_started (T : TX K mg w) : FnOk P w K mg base CX0 1 T.a_started T.d_started ["value"] (spP K (P1 fun x => ∃ a b c d e f g h, x = tk8 a b c d e f g h) (fun as r => ∀ a b c d e f g h, as = [tk8 a b c d e f g h] → r = .d (tk8 a b c (.str "running") e f g h))) := by
  refine okP T.F_started sc_started 0 rfl P1.len fun cdv A outer s H E hr => ⟨_, (pss_one (ps_ret (pe_op (opK_catA (K := K) rfl) (pe_op (opK_catA (K := K) rfl) (pe_slice (slK_tupA (K := K) rfl) (pv 0) po_none (po_some (pe_glob (v := .int 3) (by rfl) T.c_STATE ⟨_, rfl⟩))) (pe_tup (pa_cons pe_str pa_nil))) (pe_slice (slK_tupA (K := K) rfl) (pv 0) (po_some (pe_op op_add (pe_glob (v := .int 3) (by rfl) T.c_STATE ⟨_, rfl⟩) pe_int)) po_none)))), fun ds hd => ?_⟩
  obtain ⟨_, rfl, a, b, c, d, e, f, g, h, rfl⟩ := hd
  walk_at "pn"
  walk_at "px"
  exact ⟨fun a' b' c' d' e' f' g' h' q => (by cases q; rfl), True.intro⟩
theorem ok_ended (T : TX K mg w) : FnOk P w K mg base CX0 1 T.a_ended T.d_ended ["value"] (spP K (P1 fun x => ∃ a b c d e f g h, x = tk8 a b c d e f g h) (fun as r => ∀ a b c d e f g h, as = [tk8 a b c d e f g h] → r = .d (tk8 a b c (.str "ended") e f g h))) := by
  refine okP T.F_ended sc_ended 0 rfl P1.len fun cdv A outer s H E hr => ⟨_, (pss_one (ps_ret (pe_op (opK_catA (K := K) rfl) (pe_op (opK_catA (K := K) rfl) (pe_slice (slK_tupA (K := K) rfl) (pv 0) po_none (po_some (pe_glob (v := .int 3) (by rfl) T.c_STATE ⟨_, rfl⟩))) (pe_tup (pa_cons pe_str pa_nil))) (pe_slice (slK_tupA (K := K) rfl) (pv 0) (po_some (pe_op op_add (pe_glob (v := .int 3) (by rfl) T.c_STATE ⟨_, rfl⟩) pe_int)) po_none)))), fun ds hd => ?_⟩
  obtain ⟨_, rfl, a, b, c, d, e, f, g, h, rfl⟩ := hd
  walk_at "pn"
  walk_at "px"
  exact ⟨fun a' b' c' d' e' f' g' h' q => (by cases q; rfl), True.intro⟩
theorem ok_beat_transaction (T : TX K mg w) : FnOk P w K mg base CX0 1 T.a_beat_transaction T.d_beat_transaction ["name", "beat_rev", "life", "count"] (spP K (fun as => ∃ n r l c, as = [.str n, .int r, .int l, .int c]) (fun as r => ∀ n v l c, as = [.str n, .int v, .int l, .int c] → r = .d (trBeat n v l c))) := by
  refine okP T.F_beat_transaction sc_beat_transaction 0 rfl (fun ds h => by obtain ⟨_, _, _, _, rfl⟩ := h; rfl) fun cdv A outer s H E hr => ⟨_, (pss_one (ps_ret (pe_tup (pa_cons (pe_tup (pa_cons (pe_tup (pa_cons pe_str (pa_cons (pv 0) (pa_cons (pv 1) pa_nil)))) pa_nil)) (pa_cons (pe_tup (pa_cons (pe_tup (pa_cons pe_str (pa_cons (pv 0) (pa_cons (pe_tup (pa_cons (pv 2) (pa_cons (pe_op op_add (pv 3) pe_int) pa_nil))) pa_nil)))) pa_nil)) (pa_cons (pe_tup pa_nil) pa_nil)))))), fun ds hd => ?_⟩
  obtain ⟨n, v, l, c, rfl⟩ := hd
  walk_at "pn"
  walk_at "px"
  exact ⟨fun a' b' c' d' q => (by cases q; rfl), True.intro⟩
theorem ok_start_transaction (T : TX K mg w) : FnOk P w K mg base CX0 2 T.a_start_transaction T.d_start_transaction ["slot", "task_entry"] (spP K (fun as => ∃ s tb tr a b c d e f g h, as = [.str s, .tuple [tb, .int tr, tk8 a b c d e f g h]]) (fun as r => ∀ s tb tr a b c d e f g h, as = [.str s, .tuple [tb, .int tr, tk8 a b c d e f g h]] → r = .d (trStart s tr a b c e f g h))) := by
  refine okP T.F_start_transaction sc_start_transaction 3 rfl (fun ds h => by obtain ⟨_, _, _, _, _, _, _, _, _, _, _, rfl⟩ := h; rfl) fun cdv A outer s H E hr => ⟨_, (pss_cons (ps_asg (pv 1) (pgK_tup (K := K) (n := 3) rfl rfl (pgs_cons (pg_name (i := 2) sc_start_transaction.nd rfl (Or.inl rfl)) (pgs_cons (pg_name (i := 3) sc_start_transaction.nd rfl (Or.inl rfl)) (pgs_cons (pg_name (i := 4) sc_start_transaction.nd rfl (Or.inl rfl)) pgs_nil)))))
      (pss_one (ps_ret (pe_tup (pa_cons (pe_tup (pa_cons (pe_tup (pa_cons pe_str (pa_cons (pv 0) (pa_cons (pv 3) pa_nil)))) pa_nil)) (pa_cons (pe_tup (pa_cons (pe_tup (pa_cons pe_str (pa_cons (pv 0) (pa_cons (pe_call (ok_started T) (hr.mono (by decide)) (by rfl) T.g_started T.F_started.kp T.b_started .nil pass0 (pa_cons (pv 4) pa_nil)) pa_nil)))) pa_nil)) (pa_cons (pe_tup pa_nil) pa_nil))))))), fun ds hd => ?_⟩
  obtain ⟨sl, tb, tr, a, b, c, d, e, f, g, h, rfl⟩ := hd
  walk_at "pn"
  walk_at "px"
  refine we_callP ?_
  walk_at "px"
  refine ⟨⟨_, rfl, _, _, _, _, _, _, _, _, rfl⟩, fun r hr2 => ?_⟩
  obtain rfl := hr2 _ _ _ _ _ _ _ _ rfl
  walk_at "px"
  exact ⟨fun _ _ _ _ _ _ _ _ _ _ _ q => (by cases q; rfl), True.intro⟩
theorem ok_end_transaction (T : TX K mg w) : FnOk P w K mg base CX0 2 T.a_end_transaction T.d_end_transaction ["slot", "task_entry", "node", "node_entry"] (spP K (fun as => ∃ s n tb tr nb nr a b sz d e f g h size used life lost zone, as = [.str s, .tuple [tb, .int tr, tk8 a b (.int sz) d e f g h], .str n, .tuple [nb, .int nr, nd8 size (.int used) life lost zone]])
    (fun as r => ∀ s n tb tr nb nr a b sz d e f g h size used life lost zone, as = [.str s, .tuple [tb, .int tr, tk8 a b (.int sz) d e f g h], .str n, .tuple [nb, .int nr, nd8 size (.int used) life lost zone]] → r = .d (trEnd s n tr nr a b sz e f g h size used life lost zone))) := by
  refine okP T.F_end_transaction sc_end_transaction 12 rfl (fun ds h => by obtain ⟨_, _, _, _, _, _, _, _, _, _, _, _, _, _, _, _, _, _, _, rfl⟩ := h; rfl) fun cdv A outer s H E hr => ⟨_, (pss_cons (ps_asg (pv 1) (pgK_tup (K := K) (n := 3) rfl rfl (pgs_cons (pg_name (i := 4) sc_end_transaction.nd rfl (Or.inl rfl)) (pgs_cons (pg_name (i := 5) sc_end_transaction.nd rfl (Or.inl rfl)) (pgs_cons (pg_name (i := 6) sc_end_transaction.nd rfl (Or.inl rfl)) pgs_nil)))))
      (pss_cons (ps_asg (pv 3) (pgK_tup (K := K) (n := 3) rfl rfl (pgs_cons (pg_name (i := 4) sc_end_transaction.nd rfl (Or.inl rfl)) (pgs_cons (pg_name (i := 7) sc_end_transaction.nd rfl (Or.inl rfl)) (pgs_cons (pg_name (i := 8) sc_end_transaction.nd rfl (Or.inl rfl)) pgs_nil)))))
      (pss_cons (ps_asg (pv 8) (pgK_tup (K := K) (n := 5) rfl rfl (pgs_cons (pg_name (i := 9) sc_end_transaction.nd rfl (Or.inl rfl)) (pgs_cons (pg_name (i := 10) sc_end_transaction.nd rfl (Or.inl rfl)) (pgs_cons (pg_name (i := 11) sc_end_transaction.nd rfl (Or.inl rfl)) (pgs_cons (pg_name (i := 12) sc_end_transaction.nd rfl (Or.inl rfl)) (pgs_cons (pg_name (i := 13) sc_end_transaction.nd rfl (Or.inl rfl)) pgs_nil)))))))
      (pss_cons (ps_set (i := 14) sc_end_transaction.nd rfl (Or.inl rfl) (pe_tup (pa_cons (pe_tup (pa_cons pe_str (pa_cons (pv 2) (pa_cons (pv 7) pa_nil)))) (pa_cons (pe_tup (pa_cons pe_str (pa_cons (pv 0) (pa_cons (pv 5) pa_nil)))) pa_nil))))
      (pss_cons (ps_set (i := 15) sc_end_transaction.nd rfl (Or.inl rfl) (pe_tup (pa_cons (pe_tup (pa_cons pe_str (pa_cons (pv 2) (pa_cons (pe_tup (pa_cons (pv 9) (pa_cons (pe_op op_sub (pv 10) (pe_ix (ixK_tup (K := K) rfl) (pv 6) (pe_glob (v := .int 2) (by rfl) T.c_SIZE ⟨_, rfl⟩) (fun _ _ => rfl))) (pa_cons (pv 11) (pa_cons (pv 12) (pa_cons (pv 13) pa_nil)))))) pa_nil)))) (pa_cons (pe_tup (pa_cons pe_str (pa_cons (pv 0) (pa_cons (pe_call (ok_ended T) (hr.mono (by decide)) (by rfl) T.g_ended T.F_ended.kp T.b_ended .nil pass0 (pa_cons (pv 6) pa_nil)) pa_nil)))) pa_nil))))
      (pss_one (ps_ret (pe_tup (pa_cons (pv 14) (pa_cons (pv 15) (pa_cons (pe_tup pa_nil) pa_nil))))))))))), fun ds hd => ?_⟩
  obtain ⟨sl, n, tb, tr, nb, nr, a, b, sz, d, e, f, g, h, size, used, life, lost, zone, rfl⟩ := hd
  walk_at "pn"
  walk_at "px"
  refine we_callP ?_
  walk_at "px"
  refine ⟨⟨_, rfl, _, _, _, _, _, _, _, _, rfl⟩, fun r hr2 => ?_⟩
  obtain rfl := hr2 _ _ _ _ _ _ _ _ rfl
  walk_at "px"
  exact ⟨fun _ _ _ _ _ _ _ _ _ _ _ _ _ _ _ _ _ _ _ q => (by cases q; rfl), True.intro⟩
theorem ok__next_life (T : TX K mg w) : FnOk P w K mg base CX0 1 T.a__next_life T.d__next_life ["node_entry"] (spP K (P1 fun x => x = .none ∨ ∃ nb nr size used life lost zone, x = .tuple [nb, nr, nd8 size used (.int life) lost zone]) (fun as r => (as = [.none] → r = .d (.int 1)) ∧ ∀ nb nr size used life lost zone, as = [.tuple [nb, nr, nd8 size used (.int life) lost zone]] → r = .d (.int (life + 1)))) := by
  refine okP T.F__next_life sc__next_life 0 rfl P1.len fun cdv A outer s H E hr => ⟨_, (pss_cons (ps_if (pt_cmpR op_isN1 (pv 0) pe_non (nomark _)) (pss_one (ps_ret pe_int)) pss_nil)
      (pss_one (ps_ret (pe_op op_add (pe_ix (ixK_tup (K := K) rfl) (pe_ix (ixK_tup (K := K) rfl) (pv 0) pe_int (fun _ _ => rfl)) pe_int (fun _ _ => rfl)) pe_int)))), fun ds hd => ?_⟩
  obtain ⟨_, rfl, rfl | ⟨nb, nr, size, used, life, lost, zone, rfl⟩⟩ := hd
  · walk_at "pn"
    walk_at "px"
    exact ⟨⟨fun _ => rfl, fun _ _ _ _ _ _ _ q => (by cases q)⟩, True.intro⟩
  · walk_at "pn"
    walk_at "px"
    exact ⟨⟨fun q => (by cases q), fun _ _ _ _ _ _ _ q => (by cases q; rfl)⟩, True.intro⟩
theorem ok_enroll_transaction (T : TX K mg w) : FnOk P w K mg base CX0 2 T.a_enroll_transaction T.d_enroll_transaction ["name", "size", "zone", "node_entry", "beat_entry"] (spP K (fun as => ∃ n size zone x y, as = [.str n, .int size, .str zone, x, y] ∧ ((x = .none ∧ y = .none) ∨ ∃ nb nr sz used life lost zn bb br bv, x = .tuple [nb, .int nr, nd8 sz (.int used) (.int life) lost zn] ∧ y = .tuple [bb, .int br, bv]))
    (fun as r => ∀ n size zone, (as = [.str n, .int size, .str zone, .none, .none] → r = .d (trEnr n size zone 0 0 0 1)) ∧ ∀ nb nr sz used life lost zn bb br bv, as = [.str n, .int size, .str zone, .tuple [nb, .int nr, nd8 sz (.int used) (.int life) lost zn], .tuple [bb, .int br, bv]] → r = .d (trEnr n size zone br nr used (life + 1)))) := by
  refine okP T.F_enroll_transaction sc_enroll_transaction 6 rfl (fun ds h => by obtain ⟨_, _, _, _, _, rfl, _⟩ := h; rfl) fun cdv A outer s H E hr => ⟨_, (pss_cons (ps_set (i := 5) sc_enroll_transaction.nd rfl (Or.inl rfl) (pe_call (ok__next_life T) (hr.mono (by decide)) (by rfl) T.g__next_life T.F__next_life.kp T.b__next_life .nil pass0 (pa_cons (pv 3) pa_nil)))
      (pss_cons (ps_set (i := 6) sc_enroll_transaction.nd rfl (Or.inl rfl) pe_int)
      (pss_cons (ps_set (i := 7) sc_enroll_transaction.nd rfl (Or.inl rfl) (pe_tup (pa_cons pe_int (pa_cons pe_int pa_nil))))
      (pss_cons (ps_if (pt_cmpR op_notN1 (pv 3) pe_non (nomark _)) (pss_cons (ps_asg (pe_ix (ixK_tup (K := K) rfl) (pv 3) pe_int (fun _ _ => rfl)) (pgK_tup (K := K) (n := 5) rfl rfl (pgs_cons (pg_name (i := 8) sc_enroll_transaction.nd rfl (Or.inl rfl)) (pgs_cons (pg_name (i := 6) sc_enroll_transaction.nd rfl (Or.inl rfl)) (pgs_cons (pg_name (i := 8) sc_enroll_transaction.nd rfl (Or.inl rfl)) (pgs_cons (pg_name (i := 8) sc_enroll_transaction.nd rfl (Or.inl rfl)) (pgs_cons (pg_name (i := 8) sc_enroll_transaction.nd rfl (Or.inl rfl)) pgs_nil)))))))
        (pss_one (ps_set (i := 7) sc_enroll_transaction.nd rfl (Or.inl rfl) (pe_tup (pa_cons (pe_ix (ixK_tup (K := K) rfl) (pv 4) pe_int (fun _ _ => rfl)) (pa_cons (pe_ix (ixK_tup (K := K) rfl) (pv 3) pe_int (fun _ _ => rfl)) pa_nil)))))) pss_nil)
      (pss_cons (ps_set (i := 9) sc_enroll_transaction.nd rfl (Or.inl rfl) (pe_tup (pa_cons (pe_tup (pa_cons pe_str (pa_cons (pv 0) (pa_cons (pe_ix (ixK_tup (K := K) rfl) (pv 7) pe_int (fun _ _ => rfl)) pa_nil)))) (pa_cons (pe_tup (pa_cons pe_str (pa_cons (pv 0) (pa_cons (pe_ix (ixK_tup (K := K) rfl) (pv 7) pe_int (fun _ _ => rfl)) pa_nil)))) pa_nil))))
      (pss_cons (ps_set (i := 10) sc_enroll_transaction.nd rfl (Or.inl rfl) (pe_tup (pa_cons (pe_tup (pa_cons pe_str (pa_cons (pv 0) (pa_cons (pe_tup (pa_cons (pv 5) (pa_cons pe_int pa_nil))) pa_nil)))) (pa_cons (pe_tup (pa_cons pe_str (pa_cons (pv 0) (pa_cons (pe_tup (pa_cons (pv 1) (pa_cons (pv 6) (pa_cons (pv 5) (pa_cons pe_int (pa_cons (pv 2) pa_nil)))))) pa_nil)))) pa_nil))))
      (pss_one (ps_ret (pe_tup (pa_cons (pv 9) (pa_cons (pv 10) (pa_cons (pe_tup pa_nil) pa_nil)))))))))))), fun ds hd => ?_⟩
  obtain ⟨n, size, zone, x, y, rfl, ⟨rfl, rfl⟩ | ⟨nb, nr, sz, used, life, lost, zn, bb, br, bv, rfl, rfl⟩⟩ := hd
  · walk_at "pn"
    walk_at "px"
    refine we_callP ?_
    walk_at "px"
    refine ⟨⟨_, rfl, .inl rfl⟩, fun r hr2 => ?_⟩
    obtain rfl := hr2.1 rfl
    walk_at "px"
    refine ⟨fun n' size' zone' => ⟨fun q => ?_, fun _ _ _ _ _ _ _ _ _ _ q => (by cases q)⟩, True.intro⟩
    cases q
    rfl
  · walk_at "pn"
    walk_at "px"
    refine we_callP ?_
    walk_at "px"
    refine ⟨⟨_, rfl, .inr ⟨_, _, _, _, _, _, _, rfl⟩⟩, fun r hr2 => ?_⟩
    obtain rfl := hr2.2 _ _ _ _ _ _ _ rfl
    walk_at "px"
    refine ⟨fun n' size' zone' => ⟨fun q => (by cases q), fun _ _ _ _ _ _ _ _ _ _ q => ?_⟩, True.intro⟩
    cases q
    rfl
end
/-! # rows in ascending order of their keys -/
open PySem.W in
theorem lt_asymm {x y : PyData} (h : dataLt x y = true) : dataLt y x = false := by
  rw [Bool.eq_false_iff]
  intro g
  have := lex_trans _ _ _ h g
  rw [lex_irrefl] at this
  cases this
open PySem.W in
theorem le_trans' {α : Type} (k : α → PyData) (a b c : α) (h1 : dataLe false k a b = true) (h2 : dataLe false k b c = true) : dataLe false k a c = true := by
  have g1 : (!dataLt (k b) (k a)) = true := h1
  have g2 : (!dataLt (k c) (k b)) = true := h2
  show (!dataLt (k c) (k a)) = true
  rw [Bool.not_eq_true'] at g1 g2 ⊢
  rw [Bool.eq_false_iff]
  intro h
  rcases lex_negTrans _ (keyToks (k b)) _ h with z | z
  · have : dataLt (k c) (k b) = true := z
    rw [this] at g2; cases g2
  · have : dataLt (k b) (k a) = true := z
    rw [this] at g1; cases g1
open PySem.W in
theorem le_total' {α : Type} (k : α → PyData) (a b : α) : (dataLe false k a b || dataLe false k b a) = true := by
  show (!dataLt (k b) (k a) || !dataLt (k a) (k b)) = true
  cases h : dataLt (k b) (k a) with
  | false => rfl
  | true => rw [lt_asymm h]; rfl
/-- less, by key -/
def ltK (a b : List Key) : Bool := PySem.W.dataLt (keyD a) (keyD b)
theorem ltK_irr (a : List Key) : ltK a a = false := lex_irrefl _
theorem ltK_trans {a b c : List Key} (h : ltK a b = true) (g : ltK b c = true) : ltK a c = true := lex_trans _ _ _ h g
theorem str_ext {x y : Str} (h : x.cps.toList = y.cps.toList) : x = y := by
  cases x; cases y
  exact congrArg _ (Array.ext' h)
theorem str_tri (x y : Str) : x.cps.toList < y.cps.toList ∨ x = y ∨ y.cps.toList < x.cps.toList := by
  by_cases h : x.cps.toList < y.cps.toList
  · exact .inl h
  · by_cases g : y.cps.toList < x.cps.toList
    · exact .inr (.inr g)
    · exact .inr (.inl (str_ext (List.le_antisymm (List.not_lt.mp g) (List.not_lt.mp h))))
theorem ltK_pair (a b c d : Str) : ltK [.inr a, .inr b] [.inr c, .inr d] = (decide (a.cps.toList < c.cps.toList) || (decide (a = c) && decide (b.cps.toList < d.cps.toList))) := by
  have h1 : PySem.W.alike (.str a) (.str c) = true := by simp [PySem.W.alike]
  have h2 : PySem.W.alike (.str b) (.str d) = true := by simp [PySem.W.alike]
  have e : ltK [.inr a, .inr b] [.inr c, .inr d] = PySem.W.dataLt (.tuple [.str a, .str b]) (.tuple [.str c, .str d]) := rfl
  rw [e, PySem.W.dataLt_pair h1 h2, PySem.W.dataLt_str, PySem.W.dataLt_str]
  have q1 : PyData.eqv (.str a) (.str c) = (a == c) := rfl
  have q2 : PyData.eqv (.str b) (.str d) = (b == d) := rfl
  rw [q1, q2]
  by_cases hac : a = c
  · subst hac
    rw [if_pos (by simp), decide_eq_false (List.lt_irrefl _), decide_eq_true rfl, Bool.false_or, Bool.true_and]
    by_cases hbd : b = d
    · subst hbd
      rw [if_pos (by simp), decide_eq_false (List.lt_irrefl _)]
    · rw [if_neg (by simp [hbd])]
  · rw [if_neg (by simp [hac]), decide_eq_false hac, Bool.false_and, Bool.or_false]
theorem ltK_tri {a b c d : Str} : ltK [.inr a, .inr b] [.inr c, .inr d] = true ∨ ([.inr a, .inr b] : List Key) = [.inr c, .inr d] ∨ ltK [.inr c, .inr d] [.inr a, .inr b] = true := by
  rw [ltK_pair, ltK_pair]
  rcases str_tri a c with h | h | h
  · exact .inl (by rw [decide_eq_true h]; rfl)
  · subst h
    rcases str_tri b d with g | g | g
    · exact .inl (by rw [decide_eq_true g, decide_eq_true rfl]; simp)
    · subst g; exact .inr (.inl rfl)
    · exact .inr (.inr (by rw [decide_eq_true g, decide_eq_true rfl]; simp))
  · exact .inr (.inr (by rw [decide_eq_true h]; rfl))
/-- the key of a row -/
def kR : PyData → List Key
  | .tuple (.str a :: .str b :: _) => [.inr a, .inr b]
  | _ => []
def isRow (r : PyData) : Prop := ∃ a b t, r = .tuple (.str a :: .str b :: t)
theorem isRow.pr {r : PyData} (h : isRow r) : ∃ a b, kR r = [.inr a, .inr b] := by
  obtain ⟨a, b, t, rfl⟩ := h
  exact ⟨a, b, rfl⟩
def Asc (xs : List PyData) : Prop := xs.Pairwise fun x y => ltK (kR x) (kR y) = true
theorem asc_ext : ∀ {xs ys : List PyData}, Asc xs → Asc ys → (∀ r, r ∈ xs ↔ r ∈ ys) → xs = ys
  | [], [], _, _, _ => rfl
  | [], b :: bs, _, _, h => absurd ((h b).mpr List.mem_cons_self) (by simp)
  | a :: as, [], _, _, h => absurd ((h a).mp List.mem_cons_self) (by simp)
  | a :: as, b :: bs, h1, h2, h => by
    have p1 := List.pairwise_cons.mp h1
    have p2 := List.pairwise_cons.mp h2
    have e : a = b := by
      rcases List.mem_cons.mp ((h a).mp List.mem_cons_self) with e | e
      · exact e
      · rcases List.mem_cons.mp ((h b).mpr List.mem_cons_self) with e2 | e2
        · exact e2.symm
        · have z := ltK_trans (p2.1 a e) (p1.1 b e2)
          rw [ltK_irr] at z; cases z
    subst e
    rw [asc_ext p1.2 p2.2 fun r => ?_]
    constructor
    · intro hr
      rcases List.mem_cons.mp ((h r).mp (List.mem_cons_of_mem _ hr)) with e | e
      · subst e
        have z := p1.1 r hr
        rw [ltK_irr] at z; cases z
      · exact e
    · intro hr
      rcases List.mem_cons.mp ((h r).mpr (List.mem_cons_of_mem _ hr)) with e | e
      · subst e
        have z := p2.1 r hr
        rw [ltK_irr] at z; cases z
      · exact e
/-- sorted by key, all keys different -/
theorem asc_sort {α : Type} {k : α → PyData} {f : α → PyData} {zs : List α} (hk : ∀ z ∈ zs, k z = keyD (kR (f z))) (hn : (zs.map fun z => kR (f z)).Nodup) (hp : ∀ z ∈ zs, isRow (f z)) : Asc ((zs.mergeSort (PySem.W.dataLe false k)).map f) := by
  have h1 := List.pairwise_mergeSort (le := PySem.W.dataLe false k) (le_trans' k) (le_total' k) zs
  have hperm := List.mergeSort_perm zs (PySem.W.dataLe false k)
  have h2 : ((zs.mergeSort (PySem.W.dataLe false k)).map fun z => kR (f z)).Nodup := (hperm.map _).nodup_iff.mpr hn
  unfold Asc
  rw [List.pairwise_map]
  have h3 : (zs.mergeSort (PySem.W.dataLe false k)).Pairwise fun x y => kR (f x) ≠ kR (f y) := List.pairwise_map.mp h2
  refine (h1.and h3).imp_of_mem fun {x y} hx hy ⟨g1, g2⟩ => ?_
  have mx := hperm.mem_iff.mp hx
  have my := hperm.mem_iff.mp hy
  obtain ⟨a, b, ex⟩ := (hp x mx).pr
  obtain ⟨c, d, ey⟩ := (hp y my).pr
  have g1 : (!PySem.W.dataLt (k y) (k x)) = true := g1
  rw [hk x mx, hk y my] at g1
  rw [ex, ey] at g1 g2 ⊢
  rcases ltK_tri (a := a) (b := b) (c := c) (d := d) with h | h | h
  · exact h
  · exact absurd h g2
  · have : PySem.W.dataLt (keyD [.inr c, .inr d]) (keyD [.inr a, .inr b]) = true := h
    rw [this] at g1; cases g1
/-! what the law does with rows -/
def lessD (x y : PyData) : Bool := ltK (kR x) (kR y)
def placeD (xs : List PyData) (e : PyData) : List PyData := xs.filter (fun x => lessD x e) ++ [e] ++ xs.filter (fun x => lessD e x)
theorem asc_place {xs : List PyData} {e : PyData} (h : Asc xs) : Asc (placeD xs e) := by
  unfold placeD Asc
  rw [List.append_assoc, List.singleton_append]
  rw [List.pairwise_append]
  refine ⟨h.filter _, ?_, fun x hx y hy => ?_⟩
  · rw [List.pairwise_cons]
    exact ⟨fun y hy => (List.mem_filter.mp hy).2, h.filter _⟩
  · have hx := (List.mem_filter.mp hx).2
    rcases List.mem_cons.mp hy with rfl | hy
    · exact hx
    · exact ltK_trans hx (List.mem_filter.mp hy).2
theorem mem_place {xs : List PyData} {e r : PyData} (hx : ∀ x ∈ xs, isRow x) (he : isRow e) : r ∈ placeD xs e ↔ r = e ∨ (r ∈ xs ∧ kR r ≠ kR e) := by
  unfold placeD
  rw [List.mem_append, List.mem_append, List.mem_singleton, List.mem_filter, List.mem_filter]
  obtain ⟨c, d, ee⟩ := he.pr
  constructor
  · rintro ((⟨h1, h2⟩ | h) | ⟨h1, h2⟩)
    · exact .inr ⟨h1, fun z => by
        have h2 : ltK (kR r) (kR e) = true := h2
        rw [z, ltK_irr] at h2; cases h2⟩
    · exact .inl h
    · exact .inr ⟨h1, fun z => by
        have h2 : ltK (kR e) (kR r) = true := h2
        rw [z, ltK_irr] at h2; cases h2⟩
  · rintro (h | ⟨h1, h2⟩)
    · exact .inl (.inr h)
    · obtain ⟨a, b, er⟩ := (hx r h1).pr
      rw [er, ee] at h2
      rcases ltK_tri (a := a) (b := b) (c := c) (d := d) with h | h | h
      · exact .inl (.inl ⟨h1, by show ltK (kR r) (kR e) = true; rw [er, ee]; exact h⟩)
      · exact absurd h h2
      · exact .inr ⟨h1, by show ltK (kR e) (kR r) = true; rw [er, ee]; exact h⟩
/-! the entries of a table -/
theorem row_key {z : List Key × PyData} (hp : Pr z.1) (hv : ∃ b v c, z.2 = .tuple [.int b, .int v, c]) : isRow (entRow z) ∧ kR (entRow z) = z.1 := by
  obtain ⟨k, d⟩ := z
  obtain ⟨x, y, rfl⟩ := hp
  obtain ⟨b, v, c, rfl⟩ := hv
  exact ⟨⟨x, y, _, rfl⟩, rfl⟩
theorem ents_asc {tab : Tab} (h : TabOk tab) : Asc (entsD tab) := by
  unfold entsD srtT srtK
  refine asc_sort (fun z hz => ?_) ?_ (fun z hz => (row_key (h.k z hz) (h.v z hz)).1)
  · rw [(row_key (h.k z hz) (h.v z hz)).2]
  · have : tab.map (fun z => kR (entRow z)) = tab.map Prod.fst := List.map_congr_left fun z hz => (row_key (h.k z hz) (h.v z hz)).2
    rw [this]; exact h.nd
theorem mem_ents {tab : Tab} (h : TabOk tab) {r : PyData} : r ∈ entsD tab ↔ ∃ k d, lkD tab k = some d ∧ r = entRow (k, d) := by
  unfold entsD
  rw [List.mem_map]
  constructor
  · rintro ⟨z, hz, rfl⟩
    have hm := srt_mem.mp hz
    exact ⟨z.1, z.2, lk_mem h.nd hm, rfl⟩
  · rintro ⟨k, d, e, rfl⟩
    exact ⟨(k, d), srt_mem.mpr (mem_lk e), rfl⟩
theorem ents_row {tab : Tab} (h : TabOk tab) : ∀ r ∈ entsD tab, isRow r := fun r hr => by
  obtain ⟨z, hz, rfl⟩ := List.mem_map.mp hr
  have hm := srt_mem.mp hz
  exact (row_key (h.k z hm) (h.v z hm)).1
theorem tab_put {tab : Tab} (h : TabOk tab) {k n : Str} {b v : Int} {c : PyData} : TabOk (putD tab [.inr k, .inr n] (.tuple [.int b, .int v, c])) where
  nd := put_keys h.nd
  k := fun z hz => by
    rcases put_mem hz with rfl | hz
    · exact ⟨k, n, rfl⟩
    · exact h.k z hz
  v := fun z hz => by
    rcases put_mem hz with rfl | hz
    · exact ⟨b, v, c, rfl⟩
    · exact h.v z hz
theorem tab_drop {tab : Tab} (h : TabOk tab) {k : List Key} : TabOk (dropD tab k) := ⟨drop_keys h.nd, fun z hz => h.k z (List.mem_filter.mp hz).1, fun z hz => h.v z (List.mem_filter.mp hz).1⟩
/-- a row put in its place -/
theorem ents_put {tab : Tab} (h : TabOk tab) {k n : Str} {b v : Int} {c : PyData} : placeD (entsD tab) (.tuple [.str k, .str n, .int b, .int v, c]) = entsD (putD tab [.inr k, .inr n] (.tuple [.int b, .int v, c])) := by
  refine asc_ext (asc_place (ents_asc h)) (ents_asc (tab_put h)) fun r => ?_
  rw [mem_place (ents_row h) ⟨k, n, _, rfl⟩, mem_ents (tab_put h)]
  constructor
  · rintro (rfl | ⟨h1, h2⟩)
    · exact ⟨[.inr k, .inr n], .tuple [.int b, .int v, c], by rw [lk_put, if_pos rfl], rfl⟩
    · obtain ⟨k', d, e, rfl⟩ := (mem_ents h).mp h1
      have hm := mem_lk e
      have hk := (row_key (h.k _ hm) (h.v _ hm)).2
      refine ⟨k', d, ?_, rfl⟩
      rw [lk_put, if_neg (fun z => h2 (by rw [hk]; exact z))]
      exact e
  · rintro ⟨k', d, e, rfl⟩
    rw [lk_put] at e
    split at e
    · next hk => cases e; subst hk; exact .inl rfl
    · next hk =>
      have hm := mem_lk e
      have hk2 := (row_key (h.k _ hm) (h.v _ hm)).2
      exact .inr ⟨(mem_ents h).mpr ⟨k', d, e, rfl⟩, fun z => hk (by rw [hk2] at z; exact z)⟩
/-- a row taken away -/
theorem ents_drop {tab : Tab} (h : TabOk tab) {k : List Key} : (entsD tab).filter (fun r => decide (kR r ≠ k)) = entsD (dropD tab k) := by
  refine asc_ext ((ents_asc h).filter _) (ents_asc (tab_drop h)) fun r => ?_
  rw [List.mem_filter, mem_ents h, mem_ents (tab_drop h)]
  constructor
  · rintro ⟨⟨k', d, e, rfl⟩, h2⟩
    have hm := mem_lk e
    have hk := (row_key (h.k _ hm) (h.v _ hm)).2
    have h2 := of_decide_eq_true h2
    refine ⟨k', d, ?_, rfl⟩
    rw [lk_drop, if_neg (fun z => h2 (by rw [hk]; exact z))]
    exact e
  · rintro ⟨k', d, e, rfl⟩
    rw [lk_drop] at e
    split at e
    · cases e
    · next hk =>
      have hm := mem_lk e
      have hk2 := (row_key (h.k _ hm) (h.v _ hm)).2
      exact ⟨⟨k', d, e, rfl⟩, decide_eq_true (by rw [hk2]; exact hk)⟩
/-- finding a row -/
def findR (es : List PyData) (k : List Key) : Option PyData := es.find? fun r => decide (kR r = k)
theorem find_ents {tab : Tab} (h : TabOk tab) {k : List Key} : findR (entsD tab) k = (lkD tab k).map fun d => entRow (k, d) := by
  unfold findR
  cases e : lkD tab k with
  | none =>
    rw [Option.map_none, List.find?_eq_none]
    intro r hr hd
    obtain ⟨k', d, e', rfl⟩ := (mem_ents h).mp hr
    have hm := mem_lk e'
    have hk := (row_key (h.k _ hm) (h.v _ hm)).2
    have : k' = k := by have z := of_decide_eq_true hd; rw [hk] at z; exact z
    subst this
    rw [e] at e'; cases e'
  | some d =>
    have hm := mem_lk e
    have hk := (row_key (h.k _ hm) (h.v _ hm)).2
    have hin : entRow (k, d) ∈ entsD tab := (mem_ents h).mpr ⟨k, d, e, rfl⟩
    cases hf : (entsD tab).find? fun r => decide (kR r = k) with
    | none =>
      have := List.find?_eq_none.mp hf _ hin
      exact absurd (decide_eq_true hk) this
    | some r =>
      obtain ⟨k', d', e', rfl⟩ := (mem_ents h).mp (List.mem_of_find?_eq_some hf)
      have h2 := List.find?_some hf
      have hm' := mem_lk e'
      have hk' := (row_key (h.k _ hm') (h.v _ hm')).2
      have : k' = k := by have z := of_decide_eq_true h2; rw [hk'] at z; exact z
      subst this
      rw [e] at e'
      cases e'
      rfl
/-- puts and deletes, sorted -/
theorem sortD_asc {ps : List PyData} (hp : ∀ p ∈ ps, isRow p) (hn : (ps.map kR).Nodup) : Asc (sortD ps) := by
  have h := asc_sort (k := key2) (f := fun p => p) (zs := ps) (fun z hz => ?_) hn hp
  · rw [List.map_id'] at h; exact h
  · obtain ⟨a, b, t, rfl⟩ := hp z hz
    rfl
theorem mem_sortD {ps : List PyData} {r : PyData} : r ∈ sortD ps ↔ r ∈ ps := List.mem_mergeSort
theorem place_all : ∀ {ps done : List PyData}, Asc done → (∀ p ∈ ps, isRow p) → (∀ p ∈ done, isRow p) → ((done ++ ps).map kR).Nodup → Asc (ps.foldl placeD done) ∧ ∀ r, r ∈ ps.foldl placeD done ↔ r ∈ done ∨ r ∈ ps
  | [], done, h, _, _, _ => ⟨h, fun r => by simp⟩
  | p :: ps, done, h, hp, hd, hn => by
    rw [List.foldl_cons]
    have hpp := hp p List.mem_cons_self
    have hmem : ∀ r, r ∈ placeD done p ↔ r = p ∨ r ∈ done := fun r => by
      rw [mem_place hd hpp]
      constructor
      · rintro (h | h)
        · exact .inl h
        · exact .inr h.1
      · rintro (h | h)
        · exact .inl h
        · refine .inr ⟨h, fun z => ?_⟩
          rw [List.map_append, List.nodup_append] at hn
          exact hn.2.2 (kR r) (List.mem_map_of_mem h) (kR p) (List.mem_map_of_mem List.mem_cons_self) z
    have hn2 : ((placeD done p ++ ps).map kR).Nodup := by
      rw [List.map_append, List.nodup_append] at hn ⊢
      rw [List.map_cons, List.nodup_cons] at hn
      refine ⟨?_, hn.2.1.2, fun a ha b hb e => ?_⟩
      · have := (asc_place h : Asc (placeD done p))
        unfold Asc at this
        rw [List.Nodup, List.pairwise_map]
        exact this.imp fun {x y} z e => by rw [e, ltK_irr] at z; cases z
      · obtain ⟨r, hr, rfl⟩ := List.mem_map.mp ha
        rcases (hmem r).mp hr with rfl | hr
        · rw [e] at hn; exact hn.2.1.1 hb
        · exact hn.2.2 _ (List.mem_map_of_mem hr) b (List.mem_cons_of_mem _ hb) e
    obtain ⟨g1, g2⟩ := place_all (asc_place h) (fun q hq => hp q (List.mem_cons_of_mem _ hq)) (fun r hr => by
      rcases (hmem r).mp hr with rfl | hr
      · exact hpp
      · exact hd r hr) hn2
    refine ⟨g1, fun r => ?_⟩
    rw [g2 r, hmem r, List.mem_cons]
    constructor
    · rintro ((h | h) | h)
      · exact .inr (.inl h)
      · exact .inl h
      · exact .inr (.inr h)
    · rintro (h | h | h)
      · exact .inl (.inr h)
      · exact .inl (.inl h)
      · exact .inr h
theorem place_sort {ps : List PyData} (hp : ∀ p ∈ ps, isRow p) (hn : (ps.map kR).Nodup) : ps.foldl placeD [] = sortD ps := by
  obtain ⟨g1, g2⟩ := place_all (ps := ps) (done := []) .nil hp (fun _ h => by cases h) (by simpa using hn)
  exact asc_ext g1 (sortD_asc hp hn) fun r => by rw [g2 r, mem_sortD]; simp
/-! the draws of a script: many numbers from 0 to 996 -/
def Drawn (ds : List Int) : Prop := ∀ d ∈ ds, 0 ≤ d ∧ d < 997
theorem drawn_app {ds es : List Int} (h : Drawn ds) (g : Drawn es) : Drawn (ds ++ es) := fun d hd => (List.mem_append.mp hd).elim (h d) (g d)
theorem drawn_one {d : Int} (h : 0 ≤ d) (g : d < 997) : Drawn [d] := fun e he => by rw [List.mem_singleton] at he; subst he; exact ⟨h, g⟩
theorem drawn_take {ds : List Int} (n : Nat) (h : Drawn ds) : Drawn (ds.take n) := fun d hd => h d (List.mem_of_mem_take hd)
def sp_draws (K : PySem.W.Frag) : Sp := fun vs H Q _ => ∃ (a : Addr) (ns : List Int) (many : Nat), vs = [.ref a, .int (many : Int)] ∧ SqL K H a (ns.map V.int) ∧ ns.length ≤ 63 ∧ many ≤ 9000 ∧
  ∀ (p : Addr) (H' : Hp) (ds : List Int), H p = none → Same H H' → H' p = some (.lst (ds.map V.int)) → Drawn ds → ds.length = many → Q (.ref p) H'
section
variable {P : Program} {w : World} {K : PySem.W.Frag} {mg : Str → Option Value} {base : Heap}
end
/-! what the laws draw: names, texts, zones -/
abbrev DrL (n : Nat) (x : PyData) : Prop := ∃ ds : List Int, x = .list (ds.map .int) ∧ Drawn ds ∧ n ≤ ds.length ∧ ds.length ≤ 90000
theorem atI_of {α : Type} {xs : List α} {i : Int} (h0 : 0 ≤ i) (h1 : i.toNat < xs.length) : atI xs i = some (xs[i.toNat]'h1) := by
  have h2 : i < (xs.length : Int) := by omega
  unfold atI ixN
  rw [if_pos h0, if_pos h2]
  exact List.getElem?_eq_getElem h1
theorem dr_ix {ds : List Int} (hD : Drawn ds) {i : Int} (h0 : 0 ≤ i) (h1 : i < ds.length) : ∃ d, atI (ds.map PyData.int) i = some (.int d) ∧ 0 ≤ d ∧ d < 997 := by
  have hi : i.toNat < (ds.map PyData.int).length := by rw [List.length_map]; omega
  refine ⟨ds[i.toNat]'(by omega), ?_, hD _ (List.getElem_mem _)⟩
  rw [atI_of h0 hi, List.getElem_map]
theorem dr_getD {ds : List Int} {k : Int} (h0 : 0 ≤ k) (h1 : k.toNat < ds.length) : atI (ds.map PyData.int) k = some (.int (ds.getD k.toNat 0)) := by
  rw [atI_of h0 (by rw [List.length_map]; exact h1), List.getElem_map, List.getD_eq_getElem?_getD, List.getElem?_eq_getElem h1]
  rfl
theorem lit_ix {xs : List PyData} {i : Int} (h0 : 0 ≤ i) (h1 : i < xs.length) : ∃ x, atI xs i = some x ∧ x ∈ xs :=
  ⟨_, atI_of h0 (by omega), List.getElem_mem _⟩
theorem str_ix {z : Str} {i : Int} (h0 : 0 ≤ i) (h1 : i < z.length) : atI z.cps.toList i = some (z.cps.toList.getD i.toNat 0) ∧ z.cps.toList.getD i.toNat 0 ∈ z.cps.toList := by
  have hl := z_len z
  have hi : i.toNat < z.cps.toList.length := by omega
  rw [atI_of h0 hi, List.getD_eq_getElem?_getD, List.getElem?_eq_getElem hi]
  exact ⟨rfl, List.getElem_mem _⟩
section
variable {P : Program} {w : World} {K : PySem.W.Frag} {mg : Str → Option Value} {base : Heap}
end
/-! cuts of draws -/
theorem cutD_from {xs : List PyData} (i : Nat) : cutD xs (some (i : Int)) none = xs.drop i := by
  unfold cutD
  rw [sIx_le]
  show ((xs.drop (min i xs.length)).take (xs.length - min i xs.length)) = _
  rw [List.take_of_length_le (by rw [List.length_drop]; omega)]
  by_cases h : i ≤ xs.length
  · rw [Nat.min_eq_left h]
  · rw [Nat.min_eq_right (show xs.length ≤ i by omega), List.drop_length, List.drop_eq_nil_of_le (by omega)]
theorem cutD_mid {xs : List PyData} (i j : Nat) : cutD xs (some (i : Int)) (some (j : Int)) = (xs.drop i).take (j - i) := by
  unfold cutD
  rw [sIx_le, sIx_le]
  by_cases h : i ≤ xs.length
  · rw [Nat.min_eq_left h]
    by_cases h2 : j ≤ xs.length
    · rw [Nat.min_eq_left h2]
    · rw [Nat.min_eq_right (show xs.length ≤ j by omega)]
      rw [List.take_of_length_le (by rw [List.length_drop]; omega), List.take_of_length_le (by rw [List.length_drop]; omega)]
  · rw [Nat.min_eq_right (show xs.length ≤ i by omega), List.drop_length, List.drop_eq_nil_of_le (by omega), List.take_nil, List.take_nil]
theorem drawn_drop {ds : List Int} (n : Nat) (h : Drawn ds) : Drawn (ds.drop n) := fun d hd => h d (List.mem_of_mem_drop hd)
theorem drL_from {ds : List Int} {n : Nat} (i : Nat) (hD : Drawn ds) (h : n + i ≤ ds.length) (h9 : ds.length ≤ 90000) : DrL n (.list (cutD (ds.map PyData.int) (some (i : Int)) none)) :=
  ⟨ds.drop i, by rw [cutD_from, List.map_drop], drawn_drop i hD, by rw [List.length_drop]; omega, by rw [List.length_drop]; omega⟩
theorem drL_mid {ds : List Int} {n : Nat} (i j : Nat) (hD : Drawn ds) (h : n + i ≤ j) (h2 : j ≤ ds.length) (h9 : ds.length ≤ 90000) : DrL n (.list (cutD (ds.map PyData.int) (some (i : Int)) (some (j : Int)))) :=
  ⟨(ds.drop i).take (j - i), by rw [cutD_mid, List.map_take, List.map_drop], drawn_take _ (drawn_drop i hD), by rw [List.length_take, List.length_drop]; omega, by rw [List.length_take, List.length_drop]; omega⟩
def lawChs : Str := " !\"#$&'()*+,-./0123456789:;<=>?@ABCXYZ[\\]^_`abcxyz{|}~"
theorem lawChs_ok : lawChs.length = 54 ∧ lawChs.cps.toList.all plainCh = true := by decide +kernel
section
variable {P : Program} {w : World} {K : PySem.W.Frag} {mg : Str → Option Value} {base : Heap}
end
/-! open numbers, keys, values -/
theorem openFrom_app : ∀ {xs : List PyData} {l k : Int}, openFrom l xs = true → (∀ x ∈ xs, intOf x < k) → l ≤ k → k ≤ 9 → openFrom l (xs ++ [.int k]) = true
  | [], l, k, _, _, h1, h2 => by
    show (intIn (.int k) l 9 && true) = true
    show ((decide (l ≤ k) && decide (k ≤ 9)) && true) = true
    rw [decide_eq_true h1, decide_eq_true h2]; rfl
  | x :: xs, l, k, h, hx, h1, h2 => by
    have h' : (intIn x l 9 && openFrom (intOf x + 1) xs) = true := h
    rw [Bool.and_eq_true] at h'
    show (intIn x l 9 && openFrom (intOf x + 1) (xs ++ [.int k])) = true
    have := hx x List.mem_cons_self
    rw [h'.1, openFrom_app h'.2 (fun y hy => hx y (List.mem_cons_of_mem _ hy)) (by omega) h2]; rfl
theorem digit_ok {d : Int} (h0 : 0 ≤ d) (h1 : d < 10) : ∃ c, (toString d : Str) = ⟨#[c]⟩ ∧ c ∈ digChs.cps.toList := by
  have z : ∀ j : Nat, j < 10 → ((toString (j : Int) : Str).cps.size = 1 ∧ (toString (j : Int) : Str).cps.toList.getD 0 0 ∈ digChs.cps.toList) := by decide +kernel
  obtain ⟨e1, e2⟩ := z d.toNat (by omega)
  rw [Int.toNat_of_nonneg h0] at e1 e2
  refine ⟨_, ?_, e2⟩
  generalize (toString d : Str) = w at e1 ⊢
  obtain ⟨⟨l⟩⟩ := w
  match l, e1 with
  | [c], _ => rfl
theorem isSl_make {z : Str} {c : Nat} (h : isNm (.str z) = true) (hc : c ∈ digChs.cps.toList) : isSl (.str (z ++ "/" ++ ⟨#[c]⟩)) = true := by
  have h' : (decide (1 ≤ z.length) && decide (z.length ≤ 12) && z.cps.toList.all fun c => decide (c ∈ nameChs.cps.toList)) = true := h
  rw [Bool.and_eq_true, Bool.and_eq_true] at h'
  have h1 := of_decide_eq_true h'.1.1
  have hz := z_len z
  have el : (z ++ "/" ++ ⟨#[c]⟩ : Str).cps.toList = z.cps.toList ++ [47, c] := by
    show (z.cps ++ ("/" : Str).cps ++ #[c]).toList = _
    have : ("/" : Str).cps = #[47] := by decide +kernel
    rw [this]; simp
  have en : (z ++ "/" ++ ⟨#[c]⟩ : Str).length = z.length + 2 := by rw [← z_len, el, List.length_append, hz]; rfl
  have ec : cutS (z ++ "/" ++ ⟨#[c]⟩ : Str) none (some (-2)) = z := by
    unfold cutS
    rw [en, el]
    show (⟨((List.take ((-2 + ((z.length + 2 : Nat) : Int)).toNat - 0) ((z.cps.toList ++ [47, c]).drop 0))).toArray⟩ : Str) = z
    rw [show (-2 + ((z.length + 2 : Nat) : Int)).toNat - 0 = z.length by omega, List.drop_zero, List.take_append_of_le_length (by omega), List.take_of_length_le (by omega)]
  show (decide (3 ≤ Str.length _) && _) = true
  rw [en, decide_eq_true (by omega : 3 ≤ z.length + 2), Bool.true_and, ec, h, Bool.and_true, el]
  have e1 : (z.cps.toList ++ [47, c]).getD (z.length + 2 - 1) 0 = c := by
    rw [List.getD_eq_getElem?_getD, List.getElem?_append_right (by omega), hz, show z.length + 2 - 1 - z.length = 1 by omega]; rfl
  have e2 : (z.cps.toList ++ [47, c]).getD (z.length + 2 - 2) 0 = 47 := by
    rw [List.getD_eq_getElem?_getD, List.getElem?_append_right (by omega), hz, show z.length + 2 - 2 - z.length = 0 by omega]; rfl
  rw [e1, e2, decide_eq_true hc]
  rfl
section
variable {P : Program} {w : World} {K : PySem.W.Frag} {mg : Str → Option Value} {base : Heap}
theorem worth_at {kd : Str} (hk : kd ∈ kindNames) (h1 : kd ≠ "beat") (h2 : kd ≠ "drain") (h3 : kd ≠ "node") (h4 : kd ≠ "note") (h5 : kd ≠ "rollout") (h6 : kd ≠ "service") : formOf kd = fTask := by
  unfold formOf
  rw [if_neg h1, if_neg h2, if_neg h3, if_neg h4, if_neg h5, if_neg h6]
theorem ct_draw {d : Int} (h : 0 ≤ d ∧ d < 997) : isCt (.int d) = true := by
  show (decide (0 ≤ d) && decide (d ≤ 1000000000000)) = true
  rw [decide_eq_true h.1, decide_eq_true (by omega)]; rfl
theorem in_dec {d lo hi : Int} (h : lo ≤ d ∧ d ≤ hi) : intIn (.int d) lo hi = true := by
  show (decide (lo ≤ d) && decide (d ≤ hi)) = true
  rw [decide_eq_true h.1, decide_eq_true h.2]; rfl
end
theorem intIn_int {x : PyData} {lo hi : Int} (h : intIn x lo hi = true) : ∃ j, x = .int j ∧ lo ≤ j ∧ j ≤ hi := by
  cases x with
  | int j =>
    have : (decide (lo ≤ j) && decide (j ≤ hi)) = true := h
    rw [Bool.and_eq_true] at this
    exact ⟨j, rfl, of_decide_eq_true this.1, of_decide_eq_true this.2⟩
  | _ => cases h
/-! what has a form is small -/
theorem atI_getD {xs : List PyData} {i : Int} (h0 : 0 ≤ i) (h1 : i.toNat < xs.length) : atI xs i = some (xs.getD i.toNat .none) := by
  rw [atI_of h0 h1, List.getD_eq_getElem?_getD, List.getElem?_eq_getElem h1, Option.getD_some]
theorem low_ok {z : Str} (h : ∀ c ∈ z.cps.toList, c ≤ 126) : PyData.strOk z = true := by
  unfold PyData.strOk
  rw [← Array.all_toList, List.all_eq_true]
  intro c hc
  have h1 := h c hc
  refine decide_eq_true ?_
  omega
theorem low_okx {z : Str} {n : Nat} (h : ∀ c ∈ z.cps.toList, c ≤ 126) (hl : z.length ≤ 100000) : okx n (.str z) = true := by
  unfold okx
  rw [low_ok h, decide_eq_true hl]; rfl
theorem nm_low {z : Str} (h : isNm (.str z) = true) : (∀ c ∈ z.cps.toList, c ≤ 126) ∧ 1 ≤ z.length ∧ z.length ≤ 12 := by
  have h' : (decide (1 ≤ z.length) && decide (z.length ≤ 12) && z.cps.toList.all fun c => decide (c ∈ nameChs.cps.toList)) = true := h
  rw [Bool.and_eq_true, Bool.and_eq_true, List.all_eq_true] at h'
  refine ⟨fun c hc => ?_, of_decide_eq_true h'.1.1, of_decide_eq_true h'.1.2⟩
  have h1 := of_decide_eq_true (h'.2 c hc)
  have : ∀ c ∈ nameChs.cps.toList, c ≤ 126 := by decide +kernel
  exact this c h1
theorem nm_okx {y : PyData} {n : Nat} (h : isNm y = true) : okx n y = true := by
  cases y with
  | str z => exact low_okx (nm_low h).1 (by have := (nm_low h).2.2; omega)
  | _ => cases h
theorem tx_okx {y : PyData} {n : Nat} (h : isTx y = true) : okx n y = true := by
  cases y with
  | str z =>
    have h' : (decide (z.length ≤ 40) && z.cps.toList.all plainCh) = true := h
    rw [Bool.and_eq_true, List.all_eq_true] at h'
    refine low_okx (fun c hc => ?_) (by have := of_decide_eq_true h'.1; omega)
    have h1 := h'.2 c hc
    unfold plainCh at h1
    rw [Bool.and_eq_true, Bool.and_eq_true] at h1
    exact of_decide_eq_true h1.1.2
  | _ => cases h
theorem zo_okx {y : PyData} {n : Nat} (h : isZo y = true) : okx n y = true := by
  unfold isZo at h
  rw [Bool.or_eq_true] at h
  rcases h with h | h
  · rw [eqv_strR h]; exact low_okx (by decide +kernel) (by decide +kernel)
  · exact nm_okx h
theorem in_okx {y : PyData} {lo hi : Int} {n : Nat} (h : intIn y lo hi = true) : okx n y = true := by
  obtain ⟨j, rfl, _⟩ := intIn_int h
  cases n <;> rfl
theorem sl_okx {y : PyData} {n : Nat} (h : isSl y = true) : okx n y = true := by
  cases y with
  | str z =>
    have h' : (decide (3 ≤ z.length) && (decide (z.cps.toList.getD (z.length - 1) 0 ∈ digChs.cps.toList) && (decide (z.cps.toList.getD (z.length - 2) 0 = 47) && isNm (.str (cutS z none (some (-2))))))) = true := h
    rw [Bool.and_eq_true, Bool.and_eq_true, Bool.and_eq_true] at h'
    obtain ⟨g1, g2, g3, g4⟩ := h'
    replace g1 := of_decide_eq_true g1
    replace g2 := of_decide_eq_true g2
    replace g3 := of_decide_eq_true g3
    have hz := z_len z
    have ec : (cutS z none (some (-2))).cps.toList = z.cps.toList.take (z.length - 2) := by
      unfold cutS
      show (List.take ((-2 + (z.length : Int)).toNat - 0) (z.cps.toList.drop 0)).toArray.toList = _
      rw [List.drop_zero, show (-2 + (z.length : Int)).toNat - 0 = z.length - 2 by omega]
    have e3 : (cutS z none (some (-2))).length = z.length - 2 := by rw [← z_len, ec, List.length_take, hz]; omega
    obtain ⟨l1, _, l3⟩ := nm_low g4
    rw [e3] at l3
    rw [ec] at l1
    refine low_okx (fun c hc => ?_) (by omega)
    obtain ⟨i, hi, rfl⟩ := List.mem_iff_getElem.mp hc
    by_cases h1 : i < z.length - 2
    · refine l1 _ ?_
      rw [List.mem_take_iff_getElem]
      exact ⟨i, by omega, rfl⟩
    · by_cases h2 : i = z.length - 2
      · subst h2
        rw [List.getD_eq_getElem?_getD, List.getElem?_eq_getElem hi, Option.getD_some] at g3
        rw [g3]; decide
      · have h3 : i = z.length - 1 := by omega
        subst h3
        rw [List.getD_eq_getElem?_getD, List.getElem?_eq_getElem hi, Option.getD_some] at g2
        have : ∀ c ∈ digChs.cps.toList, c ≤ 126 := by decide +kernel
        exact this _ g2
  | _ => cases h
theorem ky_okx {k y : PyData} {n m : Nat} (h : isKy k y = true) : okx n k = true ∧ okx m y = true := by
  obtain ⟨z, hz, rfl⟩ := isKy_kind h
  refine ⟨?_, ?_⟩
  · simp only [kindNames, List.mem_cons, List.not_mem_nil, or_false] at hz
    rcases hz with rfl | rfl | rfl | rfl | rfl | rfl | rfl <;> exact low_okx (by decide +kernel) (by decide +kernel)
  · unfold isKy at h
    split at h
    · exact sl_okx h
    · rw [Bool.and_eq_true] at h; exact nm_okx h.2
theorem open_okx : ∀ {xs : List PyData} {l : Int}, openFrom l xs = true → (∀ x ∈ xs, ∀ n, okx n x = true) ∧ l + xs.length ≤ 10 ∨ xs = []
  | [], l, _ => .inr rfl
  | x :: xs, l, h => by
    unfold openFrom at h
    rw [Bool.and_eq_true] at h
    obtain ⟨j, rfl, h1, h2⟩ := intIn_int h.1
    rcases open_okx h.2 with ⟨h3, h4⟩ | rfl
    · refine .inl ⟨fun x hx n => ?_, ?_⟩
      · rcases List.mem_cons.mp hx with rfl | hx
        · exact in_okx h.1
        · exact h3 x hx n
      · change j + 1 + (xs.length : Int) ≤ 10 at h4
        rw [List.length_cons]
        omega
    · refine .inl ⟨fun x hx n => ?_, ?_⟩
      · rw [List.mem_singleton] at hx; rw [hx]; exact in_okx h.1
      · show l + ((0 + 1 : Nat) : Int) ≤ 10; omega
theorem op_okx {y : PyData} {n : Nat} (h : isOpN y = true) : okx (n + 1) y = true := by
  cases y with
  | tuple xs =>
    rcases open_okx (show openFrom 0 xs = true from h) with ⟨h1, h2⟩ | rfl
    · exact okx_tup_of (by omega) fun x hx => h1 x hx n
    · rfl
  | _ => cases h
theorem st_okx {y : PyData} {n : Nat} (h : (statesD.any fun z => z.eqv y) = true) : okx n y = true := by
  rw [List.any_eq_true] at h
  obtain ⟨z, hz, he⟩ := h
  simp only [statesD, List.mem_cons, List.not_mem_nil, or_false] at hz
  rcases hz with rfl | rfl | rfl | rfl <;> (rw [eqv_strL he]; exact low_okx (by decide +kernel) (by decide +kernel))
theorem form_okx {z : Str} {y : PyData} (h : formOf z y = true) : okx 3 y = true := by
  have tup : ∀ {xs : List PyData}, xs.length ≤ 8 → (∀ x ∈ xs, okx 2 x = true) → okx 3 (.tuple xs) = true := fun hl h => okx_tup_of (by omega) h
  unfold formOf at h
  repeat' split at h
  · unfold fBeat at h
    split at h
    · simp only [Bool.and_eq_true, isCt] at h
      exact tup (by simp) (by simp [in_okx h.1, in_okx h.2])
    · cases h
  · unfold fDrain at h
    split at h
    · exact tup (by simp) (by simp [tx_okx h])
    · cases h
  · unfold fNode at h
    split at h
    · simp only [Bool.and_eq_true, isCt] at h
      exact tup (by simp) (by simp [in_okx h.1, in_okx h.2.1, in_okx h.2.2.1, in_okx h.2.2.2.1, zo_okx h.2.2.2.2])
    · cases h
  · unfold fNote at h
    split at h
    · simp only [Bool.and_eq_true, isCt, Bool.or_eq_true] at h
      rcases h.2.2 with h2 | h2
      · have e2 := eqv_strR h2.2
        subst e2
        have e1 := eqv_strR h2.1
        subst e1
        exact tup (by simp) (by simp [tx_okx h.1, in_okx h.2.1, (low_okx (by decide +kernel) (by decide +kernel) : okx 2 (.str "") = true)])
      · exact tup (by simp) (by simp [tx_okx h.1, in_okx h.2.1, (ky_okx (n := 2) (m := 2) h2).1, (ky_okx (n := 2) (m := 2) h2).2])
    · cases h
  · unfold fRollout at h
    split at h
    · simp only [Bool.and_eq_true, isCt] at h
      exact tup (by simp) (by simp [in_okx h.1, op_okx (n := 1) h.2])
    · cases h
  · unfold fService at h
    split at h
    · simp only [Bool.and_eq_true, isCt] at h
      exact tup (by simp) (by simp [in_okx h.1, in_okx h.2.1, tx_okx h.2.2.1, in_okx h.2.2.2.1, zo_okx h.2.2.2.2])
    · cases h
  · unfold fTask at h
    split at h
    · simp only [Bool.and_eq_true, isCt] at h
      exact tup (by simp) (by simp [in_okx h.1, in_okx h.2.1, in_okx h.2.2.1, tx_okx h.2.2.2.1, zo_okx h.2.2.2.2.1, zo_okx h.2.2.2.2.2.1, st_okx h.2.2.2.2.2.2.1, in_okx h.2.2.2.2.2.2.2])
    · cases h
theorem cutD_mem {xs : List PyData} {lo hi : Option Int} {x : PyData} (h : x ∈ cutD xs lo hi) : x ∈ xs := List.mem_of_mem_drop (List.mem_of_mem_take h)
theorem cutD_le {xs : List PyData} {lo hi : Option Int} : (cutD xs lo hi).length ≤ xs.length := by
  unfold cutD
  rw [List.length_take, List.length_drop]
  omega
theorem cutD_to {xs : List PyData} (j : Nat) : cutD xs none (some (j : Int)) = xs.take j := by
  unfold cutD
  rw [sIx_le]
  show ((xs.drop 0).take (min j xs.length - 0)) = _
  rw [List.drop_zero, Nat.sub_zero]
  by_cases h : j ≤ xs.length
  · rw [Nat.min_eq_left h]
  · rw [Nat.min_eq_right (by omega), List.take_length, List.take_of_length_le (by omega)]
theorem part_eq {ds : List Int} {i n : Nat} : cutD (ds.map PyData.int) (some ((n : Int) * (0 + (i : Int)))) (some ((n : Int) * (0 + (i : Int)) + (n : Int))) = ((ds.drop (n * i)).take n).map .int := by
  rw [show (n : Int) * (0 + (i : Int)) = ((n * i : Nat) : Int) by rw [Int.zero_add]; rfl, show ((n * i : Nat) : Int) + (n : Int) = ((n * i + n : Nat) : Int) by omega, cutD_mid, List.map_take, List.map_drop, Nat.add_sub_cancel_left]
theorem cond_okx {x : PyData} (h : isCond x = true) : okx 5 x = true := by
  unfold isCond at h
  split at h
  · rename_i k n r
    rw [Bool.and_eq_true] at h
    exact okx_tup_of (by simp) (by simp [(ky_okx (n := 4) (m := 4) h.1).1, (ky_okx (n := 4) (m := 4) h.1).2, in_okx (n := 4) h.2])
  · cases h
theorem obj_parts {k n v : PyData} (h : isObj k n v = true) : isKy k n = true ∧ okx 3 v = true := by
  unfold isObj at h
  rw [Bool.and_eq_true] at h
  obtain ⟨z, _, rfl⟩ := isKy_kind h.1
  refine ⟨h.1, ?_⟩
  have h2 := h.2
  rw [Bool.and_eq_true] at h2
  exact form_okx h2.2
theorem put_okx {x : PyData} (h : isPut x = true) : okx 5 x = true := by
  unfold isPut at h
  split at h
  · rename_i k n v
    obtain ⟨h1, h2⟩ := obj_parts h
    exact okx_tup_of (by simp) (by simp [(ky_okx (n := 4) (m := 4) h1).1, (ky_okx (n := 4) (m := 4) h1).2, okx_mono (m := 4) (by decide) h2])
  · cases h
theorem del_okx {x : PyData} (h : isDel x = true) : okx 5 x = true := by
  unfold isDel at h
  split at h
  · rename_i k n
    exact okx_tup_of (by simp) (by simp [(ky_okx (n := 4) (m := 4) h).1, (ky_okx (n := 4) (m := 4) h).2])
  · cases h
def no13 (_ : PyData) : Prop := True
structure GoodT (c p d : List PyData) : Prop where
  lc : c.length ≤ 3
  lp : p.length ≤ 3
  ld : d.length ≤ 3
  ac : c.all isCond = true
  ap : p.all isPut = true
  ad : d.all isDel = true
  k : ((p.map put2 ++ d).map keyOf).Nodup
  n : ∀ k ∈ p.map put2 ++ d, no13 k
/-- while puts and deletes are gathered -/
structure GatherT (i : Nat) (p d ks : List PyData) : Prop where
  lp : p.length ≤ i
  ld : d.length ≤ i
  lk : ks.length ≤ i
  ap : p.all isPut = true
  ad : d.all isDel = true
  k : ((p.map put2 ++ d).map keyOf).Nodup
  n : ∀ k ∈ p.map put2 ++ d, no13 k
  m : ∀ k ∈ p.map put2 ++ d, k ∈ ks
  s : ∀ k ∈ ks, is2S k
  o : ∀ k ∈ ks, okx 3 k = true
theorem keyOf_inj {x y : PyData} (hx : is2S x) (hy : is2S y) (h : keyOf x = keyOf y) : x = y := by
  obtain ⟨a, b, rfl⟩ := hx
  obtain ⟨c, d, rfl⟩ := hy
  have h' : ([.inr a, .inr b] : List Key) = [.inr c, .inr d] := h
  injection h' with h1 h2
  injection h2 with h3 h4
  cases h1
  cases h3
  rfl
theorem GatherT.new {i : Nat} {p d ks : List PyData} {x : PyData} (g : GatherT i p d ks) (hx : is2S x) (hn : x ∉ ks) : keyOf x ∉ (p.map put2 ++ d).map keyOf := fun h => by
  obtain ⟨y, hy, e⟩ := List.mem_map.mp h
  have := keyOf_inj (g.s y (g.m y hy)) hx e
  subst this
  exact hn (g.m _ hy)
theorem GatherT.del {i : Nat} {p d ks : List PyData} {x : PyData} (g : GatherT i p d ks) (hx : is2S x) (hxo : okx 3 x = true) (h13 : no13 x) (hn : x ∉ ks) (hd : isDel x = true) : GatherT (i + 1) p (d ++ [x]) (ks ++ [x]) where
  lp := Nat.le_succ_of_le g.lp
  ld := by rw [List.length_append]; exact Nat.succ_le_succ g.ld
  lk := by rw [List.length_append]; exact Nat.succ_le_succ g.lk
  ap := g.ap
  ad := by rw [List.all_append, g.ad]; simp [hd]
  k := by
    rw [← List.append_assoc, List.map_append, List.nodup_append]
    refine ⟨g.k, by simp, fun a ha b hb => ?_⟩
    rw [List.map_singleton, List.mem_singleton] at hb
    rw [hb]
    exact fun e => g.new hx hn (e ▸ ha)
  n := fun k hk => by
    rw [← List.append_assoc] at hk
    rcases List.mem_append.mp hk with h | h
    · exact g.n k h
    · rw [List.mem_singleton.mp h]; exact h13
  m := fun k hk => by
    rw [← List.append_assoc] at hk
    rcases List.mem_append.mp hk with h | h
    · exact List.mem_append_left _ (g.m k h)
    · exact List.mem_append_right _ h
  s := fun k hk => by
    rcases List.mem_append.mp hk with h | h
    · exact g.s k h
    · rw [List.mem_singleton.mp h]; exact hx
  o := fun k hk => by
    rcases List.mem_append.mp hk with h | h
    · exact g.o k h
    · rw [List.mem_singleton.mp h]; exact hxo
theorem GatherT.put {i : Nat} {p d ks : List PyData} {x y : PyData} (g : GatherT i p d ks) (hx : is2S x) (hxo : okx 3 x = true) (h13 : no13 x) (hn : x ∉ ks) (hp : isPut y = true) (e : put2 y = x) : GatherT (i + 1) (p ++ [y]) d (ks ++ [x]) := by
  have hperm : (List.map put2 (p ++ [y]) ++ d).Perm ((p.map put2 ++ d) ++ [x]) := by
    rw [List.map_append, List.map_singleton, e, List.append_assoc, List.append_assoc]
    exact List.Perm.append_left _ List.perm_append_comm
  refine ⟨?_, Nat.le_succ_of_le g.ld, ?_, ?_, g.ad, ?_, fun k hk => ?_, fun k hk => ?_, fun k hk => ?_, fun k hk => ?_⟩
  · rw [List.length_append]; exact Nat.succ_le_succ g.lp
  · rw [List.length_append]; exact Nat.succ_le_succ g.lk
  · rw [List.all_append, g.ap]; simp [hp]
  · rw [(hperm.map keyOf).nodup_iff, List.map_append, List.nodup_append]
    refine ⟨g.k, by simp, fun a ha b hb => ?_⟩
    rw [List.map_singleton, List.mem_singleton] at hb
    rw [hb]
    exact fun e => g.new hx hn (e ▸ ha)
  · rcases List.mem_append.mp (hperm.mem_iff.mp hk) with h | h
    · exact g.n k h
    · rw [List.mem_singleton.mp h]; exact h13
  · rcases List.mem_append.mp (hperm.mem_iff.mp hk) with h | h
    · exact List.mem_append_left _ (g.m k h)
    · exact List.mem_append_right _ h
  · rcases List.mem_append.mp hk with h | h
    · exact g.s k h
    · rw [List.mem_singleton.mp h]; exact hx
  · rcases List.mem_append.mp hk with h | h
    · exact g.o k h
    · rw [List.mem_singleton.mp h]; exact hxo
theorem GatherT.keep {i : Nat} {p d ks : List PyData} (g : GatherT i p d ks) : GatherT (i + 1) p d ks := ⟨Nat.le_succ_of_le g.lp, Nat.le_succ_of_le g.ld, Nat.le_succ_of_le g.lk, g.ap, g.ad, g.k, g.n, g.m, g.s, g.o⟩
theorem eqv_self2 {a b : Str} : (PyData.tuple [.str a, .str b]).eqv (.tuple [.str a, .str b]) = true := by
  simp only [PyData.eqv, PyData.eqvAll, beq_self_eq_true, Bool.and_true]
theorem cut_at {ds : List Int} {lo hi : Int} {a n : Nat} (h1 : lo = (a : Int)) (h2 : hi = ((a + n : Nat) : Int)) : cutD (ds.map PyData.int) (some lo) (some hi) = ((ds.drop a).take n).map .int := by
  rw [h1, h2, cutD_mid, List.map_take, List.map_drop, Nat.add_sub_cancel_left]
/-! # a life in the store -/
structure TQ where
  tb : Int
  tr : Int
  sz : Int
  state : Str
  st : Int
  nd : Str
  lf : Int
abbrev TQ.V (t : TQ) : PyData := .tuple [.int 4, .str "run", .int t.sz, .str t.state, .int t.st, .str t.nd, .int t.lf, .str ""]
abbrev TQ.D (t : TQ) : PyData := .tuple [.int t.tb, .int t.tr, t.V]
structure NQ where
  nb : Int
  nv : Int
  size : Int
  used : Int
  life : Int
abbrev NQ.V (n : NQ) : PyData := .tuple [.int n.size, .int n.used, .int n.life, .int 0, .str "a"]
abbrev NQ.D (n : NQ) : PyData := .tuple [.int n.nb, .int n.nv, n.V]
structure BQ where
  bb : Int
  bv : Int
  life : Int
  n : Int
abbrev BQ.V (b : BQ) : PyData := .tuple [.int b.life, .int b.n]
abbrev BQ.D (b : BQ) : PyData := .tuple [.int b.bb, .int b.bv, b.V]
def isBusy (t : TQ) : Prop := t.state = "bound" ∨ t.state = "running"
instance (t : TQ) : Decidable (isBusy t) := by unfold isBusy; exact inferInstance
def costT (t : TQ) : Int := if isBusy t then t.sz else 0
structure TQ.Ok (t : TQ) : Prop where
  sz : 0 ≤ t.sz ∧ t.sz ≤ 30
  st : 0 ≤ t.st ∧ t.st ≤ 1
  s : t.state = "new" ∨ t.state = "bound" ∨ t.state = "running" ∨ t.state = "ended"
  nd : t.nd = "" ∨ t.nd = "w1"
  lf : 0 ≤ t.lf ∧ t.lf ≤ 1000
def setT (t : Nat → TQ) (j : Nat) (x : TQ) : Nat → TQ := fun k => if k = j then x else t k
def sumT (t : Nat → TQ) : Int := costT (t 0) + costT (t 1) + costT (t 2)
theorem sum_set {t : Nat → TQ} {j : Nat} (hj : j < 3) {x : TQ} : sumT (setT t j x) = sumT t - costT (t j) + costT x := by
  unfold sumT setT
  rcases (by omega : j = 0 ∨ j = 1 ∨ j = 2) with rfl | rfl | rfl <;> simp <;> omega
theorem cost_le {t : TQ} (h : t.Ok) : 0 ≤ costT t ∧ costT t ≤ 30 := by
  have := h.sz
  unfold costT
  split <;> omega
def slotS (i : Nat) : Str := "web/" ++ Str.ofString (toString (0 + (i : Int)))
theorem slot_ky : ∀ i : Nat, i < 3 → isKy (.str "task") (.str (slotS i)) = true := by decide +kernel
theorem slot_ne : ∀ i : Nat, i < 3 → ∀ j : Nat, j < 3 → i ≠ j → ¬ slotS i = slotS j := by decide +kernel
theorem ky_n : isKy (.str "node") (.str "w1") = true := by decide +kernel
theorem ky_b : isKy (.str "beat") (.str "w1") = true := by decide +kernel
abbrev kN : List Key := [.inr "node", .inr "w1"]
abbrev kB : List Key := [.inr "beat", .inr "w1"]
abbrev kT (j : Nat) : List Key := [.inr "task", .inr (slotS j)]
theorem kk_ne {a b x y : Str} (h : ¬ a = b) : ¬ ([.inr a, .inr x] : List Key) = [.inr b, .inr y] := fun e => h (Sum.inr.inj (List.cons.inj e).1)
theorem kNB : ¬ kN = kB := kk_ne (by decide +kernel)
theorem kBN : ¬ kB = kN := kk_ne (by decide +kernel)
theorem kNT {j : Nat} : ¬ kN = kT j := kk_ne (by decide +kernel)
theorem kTN {j : Nat} : ¬ kT j = kN := kk_ne (by decide +kernel)
theorem kBT {j : Nat} : ¬ kB = kT j := kk_ne (by decide +kernel)
theorem kTB {j : Nat} : ¬ kT j = kB := kk_ne (by decide +kernel)
theorem kTT {i j : Nat} (hi : i < 3) (hj : j < 3) (h : i ≠ j) : ¬ kT i = kT j := fun e => slot_ne i hi j hj h (Sum.inr.inj (List.cons.inj (List.cons.inj e).2).1)
theorem ct_of {j : Int} (h0 : 0 ≤ j) (h1 : j ≤ 1000000) : isCt (.int j) = true := by
  show (decide (0 ≤ j) && decide (j ≤ 1000000000000)) = true
  rw [decide_eq_true h0, decide_eq_true (by omega : j ≤ 1000000000000)]
  rfl
theorem in_01 {j : Int} (h0 : 0 ≤ j) (h1 : j ≤ 1) : intIn (.int j) 0 1 = true := by
  show (decide (0 ≤ j) && decide (j ≤ 1)) = true
  rw [decide_eq_true h0, decide_eq_true h1]
  rfl
theorem zo_of {z : Str} (h : z = "" ∨ z = "w1") : isZo (.str z) = true := by rcases h with rfl | rfl <;> decide +kernel
theorem zo_a : isZo (.str "a") = true := by decide +kernel
theorem tx_run : isTx (.str "run") = true := by decide +kernel
theorem st_of {z : Str} (h : z = "new" ∨ z = "bound" ∨ z = "running" ∨ z = "ended") : (statesD.any fun y => y.eqv (.str z)) = true := by rcases h with rfl | rfl | rfl | rfl <;> decide +kernel
theorem put_t {j : Nat} (hj : j < 3) {t : TQ} (h : t.Ok) : isPut (.tuple [.str "task", .str (slotS j), t.V]) = true := by
  show (isKy (.str "task") (.str (slotS j)) && (true && formOf "task" t.V)) = true
  have hf : formOf "task" = fTask := by
    unfold formOf
    rw [if_neg (by decide +kernel), if_neg (by decide +kernel), if_neg (by decide +kernel), if_neg (by decide +kernel), if_neg (by decide +kernel), if_neg (by decide +kernel)]
  rw [hf, slot_ky j hj]
  show (isCt (.int 4) && (isCt (.int t.sz) && (isCt (.int t.lf) && (isTx (.str "run") && (isZo (.str t.nd) && (isZo (.str "") && ((statesD.any fun z => z.eqv (.str t.state)) && intIn (.int t.st) 0 1))))))) = true
  rw [ct_of h.sz.1 (by have := h.sz; omega), ct_of h.lf.1 (by have := h.lf; omega), tx_run, zo_of h.nd, zo_of (.inl rfl), st_of h.s, in_01 h.st.1 h.st.2]
  rfl
theorem put_n {n : NQ} (h1 : 0 ≤ n.size ∧ n.size ≤ 1000) (h2 : 0 ≤ n.used ∧ n.used ≤ 1000) (h3 : 0 ≤ n.life ∧ n.life ≤ 1000) : isPut (.tuple [.str "node", .str "w1", n.V]) = true := by
  show (isKy (.str "node") (.str "w1") && (true && formOf "node" n.V)) = true
  have hf : formOf "node" = fNode := by
    unfold formOf
    rw [if_neg (by decide +kernel), if_neg (by decide +kernel), if_pos rfl]
  rw [hf, ky_n]
  show (isCt (.int n.size) && (isCt (.int n.used) && (isCt (.int n.life) && (intIn (.int 0) 0 1 && isZo (.str "a"))))) = true
  rw [ct_of h1.1 (by omega), ct_of h2.1 (by omega), ct_of h3.1 (by omega), zo_a]
  rfl
theorem put_b {b : BQ} (h1 : 0 ≤ b.life ∧ b.life ≤ 1000) (h2 : 0 ≤ b.n ∧ b.n ≤ 1000) : isPut (.tuple [.str "beat", .str "w1", b.V]) = true := by
  show (isKy (.str "beat") (.str "w1") && (true && formOf "beat" b.V)) = true
  have hf : formOf "beat" = fBeat := by
    unfold formOf
    rw [if_pos rfl]
  rw [hf, ky_b]
  show (isCt (.int b.life) && isCt (.int b.n)) = true
  rw [ct_of h1.1 (by omega), ct_of h2.1 (by omega)]
  rfl
/-- conditions and puts that can be asked for -/
structure GT (c p : List PyData) : Prop where
  lc : c.length ≤ 3
  lp : p.length ≤ 3
  ac : c.all isCond = true
  ap : p.all isPut = true
  k : ((p.map put2).map keyOf).Nodup
theorem GT.isT {c p : List PyData} (h : GT c p) : isTrans (.tuple [.tuple c, .tuple p, .tuple []]) = true :=
  isTrans_of (by have := h.lc; omega) (by have := h.lp; omega) (by show 0 ≤ 12; omega) h.ac h.ap rfl (by rw [List.append_nil]; exact decide_eq_true h.k)
theorem GT.ok8 {c p : List PyData} (h : GT c p) : okx 8 (.tuple [.tuple c, .tuple p, .tuple []]) = true := by
  have l1 := h.lc
  have l2 := h.lp
  refine okx_tupJ (by show 3 ≤ 1000; omega) fun z hz => ?_
  simp only [List.mem_cons, List.not_mem_nil, or_false] at hz
  rcases hz with rfl | rfl | rfl
  · exact okx_tupJ (by omega) fun x hx => okx_mono (n := 5) (by omega) (cond_okx (List.all_eq_true.mp h.ac x hx))
  · exact okx_tupJ (by omega) fun x hx => okx_mono (n := 5) (by omega) (put_okx (List.all_eq_true.mp h.ap x hx))
  · rfl
theorem nd1 {a : List Key} : ([a] : List (List Key)).Nodup := by simp
theorem nd2 {a b : List Key} (h : ¬ a = b) : ([a, b] : List (List Key)).Nodup := by
  rw [List.nodup_cons]
  exact ⟨fun hm => h (List.mem_singleton.mp hm), by simp⟩
theorem cond_n {r : Int} (h0 : 0 ≤ r) (h1 : r ≤ 1000) : isCond (.tuple [.str "node", .str "w1", .int r]) = true := by
  show (isKy (.str "node") (.str "w1") && isCt (.int r)) = true
  rw [ky_n, ct_of h0 (by omega)]; rfl
theorem cond_b {r : Int} (h0 : 0 ≤ r) (h1 : r ≤ 1000) : isCond (.tuple [.str "beat", .str "w1", .int r]) = true := by
  show (isKy (.str "beat") (.str "w1") && isCt (.int r)) = true
  rw [ky_b, ct_of h0 (by omega)]; rfl
theorem cond_t {j : Nat} (hj : j < 3) {r : Int} (h0 : 0 ≤ r) (h1 : r ≤ 1000) : isCond (.tuple [.str "task", .str (slotS j), .int r]) = true := by
  show (isKy (.str "task") (.str (slotS j)) && isCt (.int r)) = true
  rw [slot_ky j hj, ct_of h0 (by omega)]; rfl
/-- the tables behind one and two puts -/
theorem lk_one {m : SM} {x y : Str} {v : PyData} {k : List Key} : lkD (chg m [.tuple [.str x, .str y, v]] []).tab k = if k = [.inr x, .inr y] then some (.tuple [bornOf m.tab [.inr x, .inr y] (m.rev + 1), .int (m.rev + 1), v]) else lkD m.tab k := lk_put
theorem lk_two {m : SM} {x y x' y' : Str} {v v' : PyData} {k : List Key} (h : ¬ ([.inr x', .inr y'] : List Key) = [.inr x, .inr y]) : lkD (chg m [.tuple [.str x, .str y, v], .tuple [.str x', .str y', v']] []).tab k = if k = [.inr x', .inr y'] then some (.tuple [bornOf m.tab [.inr x', .inr y'] (m.rev + 1), .int (m.rev + 1), v']) else if k = [.inr x, .inr y] then some (.tuple [bornOf m.tab [.inr x, .inr y] (m.rev + 1), .int (m.rev + 1), v]) else lkD m.tab k := by
  show lkD (putD (putD m.tab [.inr x, .inr y] (.tuple [bornOf m.tab [.inr x, .inr y] (m.rev + 1), .int (m.rev + 1), v])) [.inr x', .inr y'] (.tuple [bornOf (putD m.tab [.inr x, .inr y] (.tuple [bornOf m.tab [.inr x, .inr y] (m.rev + 1), .int (m.rev + 1), v])) [.inr x', .inr y'] (m.rev + 1), .int (m.rev + 1), v'])) k = _
  have hb : bornOf (putD m.tab [.inr x, .inr y] (.tuple [bornOf m.tab [.inr x, .inr y] (m.rev + 1), .int (m.rev + 1), v])) [.inr x', .inr y'] (m.rev + 1) = bornOf m.tab [.inr x', .inr y'] (m.rev + 1) := by
    unfold bornOf
    rw [lk_put, if_neg h]
  rw [hb, lk_put, lk_put]
structure W78 (m : SM) (nb : Option (NQ × BQ)) (t : Nat → TQ) : Prop where
  si : SI m
  n : lkD m.tab kN = nb.map fun x => x.1.D
  b : lkD m.tab kB = nb.map fun x => x.2.D
  tk : ∀ j : Nat, j < 3 → lkD m.tab (kT j) = some (t j).D
  tok : ∀ j : Nat, j < 3 → (t j).Ok
  nok : ∀ n b, nb = some (n, b) → (0 ≤ n.size ∧ n.size ≤ 100) ∧ (0 ≤ n.life ∧ n.life ≤ m.rev) ∧ (0 ≤ b.life ∧ b.life ≤ m.rev) ∧ (0 ≤ b.n ∧ b.n ≤ 1000) ∧ n.used = sumT t
  no : nb = none → ∀ j : Nat, j < 3 → ¬ isBusy (t j)
structure Nx (m m' : SM) (nb nb' : Option (NQ × BQ)) : Prop where
  rv : m.rev ≤ m'.rev
  s : m'.s = m.s
  n : ∀ n b, nb = some (n, b) → ∃ n' b', nb' = some (n', b') ∧ (n' = n ∨ m.rev < n'.nv) ∧ (b' = b ∨ m.rev < b'.bv) ∧ n.life ≤ n'.life
theorem Nx.refl {m : SM} {nb : Option (NQ × BQ)} : Nx m m nb nb := ⟨Int.le_refl _, rfl, fun n b h => ⟨n, b, h, .inl rfl, .inl rfl, Int.le_refl _⟩⟩
theorem W78.ent {m : SM} {nb : Option (NQ × BQ)} {t : Nat → TQ} (h : W78 m nb t) {n : NQ} {b : BQ} (e : nb = some (n, b)) : (1 ≤ n.nv ∧ n.nv ≤ m.rev) ∧ (1 ≤ b.bv ∧ b.bv ≤ m.rev) := by
  have h1 := h.n
  have h2 := h.b
  rw [e] at h1 h2
  obtain ⟨b1, v1, c1, q1, _, _, q2, q3, q4⟩ := h.si.ent h1
  cases q1
  obtain ⟨b2, v2, c2, q5, _, _, q6, q7, q8⟩ := h.si.ent h2
  cases q5
  exact ⟨⟨Int.le_trans q2 q3, q4⟩, ⟨Int.le_trans q6 q7, q8⟩⟩
theorem W78.tent {m : SM} {nb : Option (NQ × BQ)} {t : Nat → TQ} (h : W78 m nb t) {j : Nat} (hj : j < 3) : 1 ≤ (t j).tr ∧ (t j).tr ≤ m.rev := by
  obtain ⟨b1, v1, c1, q1, _, _, q2, q3, q4⟩ := h.si.ent (h.tk j hj)
  cases q1
  exact ⟨by omega, q4⟩
/-- one put of a task and one of the node -/
theorem W78.nt {m : SM} {n : NQ} {b : BQ} {t : Nat → TQ} (h : W78 m (some (n, b)) t) {j : Nat} (hj : j < 3) {u : Int} {x : TQ} (hx : x.Ok) (hb : x.tb = (t j).tb) (hv : x.tr = m.rev + 1) (hu : u = n.used - costT (t j) + costT x) {cs : List PyData} (hc : GT cs [.tuple [.str "node", .str "w1", (⟨n.nb, m.rev + 1, n.size, u, n.life⟩ : NQ).V], .tuple [.str "task", .str (slotS j), x.V]]) :
    W78 (chg m [.tuple [.str "node", .str "w1", (⟨n.nb, m.rev + 1, n.size, u, n.life⟩ : NQ).V], .tuple [.str "task", .str (slotS j), x.V]] []) (some (⟨n.nb, m.rev + 1, n.size, u, n.life⟩, b)) (setT t j x) ∧
    Nx m (chg m [.tuple [.str "node", .str "w1", (⟨n.nb, m.rev + 1, n.size, u, n.life⟩ : NQ).V], .tuple [.str "task", .str (slotS j), x.V]] []) (some (n, b)) (some (⟨n.nb, m.rev + 1, n.size, u, n.life⟩, b)) := by
  obtain ⟨a1, a2, a3, a4, a5⟩ := h.nok n b rfl
  have hbn : bornOf m.tab kN (m.rev + 1) = .int n.nb := by unfold bornOf; rw [h.n]; rfl
  have hbt : bornOf m.tab (kT j) (m.rev + 1) = .int (t j).tb := by unfold bornOf; rw [h.tk j hj]
  refine ⟨⟨h.si.chg hc.isT hc.ok8, ?_, ?_, fun k hk => ?_, fun k hk => ?_, fun n' b' e => ?_, fun e => by cases e⟩, ⟨by show m.rev ≤ m.rev + 1; omega, rfl, fun n' b' e => ?_⟩⟩
  · rw [lk_two kTN, if_neg kNT, if_pos rfl, hbn]; rfl
  · rw [lk_two kTN, if_neg kBT, if_neg kBN, h.b]; rfl
  · rw [lk_two kTN]
    by_cases e : k = j
    · subst e
      rw [if_pos rfl, hbt, ← hb, ← hv]
      unfold setT; rw [if_pos rfl]
    · rw [if_neg (kTT hk hj e), if_neg kTN, h.tk k hk]
      unfold setT; rw [if_neg e]
  · unfold setT
    split
    · exact hx
    · exact h.tok k hk
  · cases e
    exact ⟨a1, by show 0 ≤ n.life ∧ n.life ≤ m.rev + 1; omega, by show 0 ≤ b.life ∧ b.life ≤ m.rev + 1; omega, a4, by rw [sum_set hj, ← a5]; exact hu⟩
  · cases e
    exact ⟨_, _, rfl, .inr (by show m.rev < m.rev + 1; omega), .inl rfl, Int.le_refl _⟩
/-- a task only -/
theorem W78.tt {m : SM} {nb : Option (NQ × BQ)} {t : Nat → TQ} (h : W78 m nb t) {j : Nat} (hj : j < 3) {x : TQ} (hx : x.Ok) (hb : x.tb = (t j).tb) (hv : x.tr = m.rev + 1) (hu : costT x = costT (t j)) (hbz : isBusy x → isBusy (t j)) {cs : List PyData} (hc : GT cs [.tuple [.str "task", .str (slotS j), x.V]]) :
    W78 (chg m [.tuple [.str "task", .str (slotS j), x.V]] []) nb (setT t j x) ∧ Nx m (chg m [.tuple [.str "task", .str (slotS j), x.V]] []) nb nb := by
  have hbt : bornOf m.tab (kT j) (m.rev + 1) = .int (t j).tb := by unfold bornOf; rw [h.tk j hj]
  refine ⟨⟨h.si.chg hc.isT hc.ok8, ?_, ?_, fun k hk => ?_, fun k hk => ?_, fun n' b' e => ?_, fun e k hk => ?_⟩, ⟨by show m.rev ≤ m.rev + 1; omega, rfl, fun n' b' e => ⟨n', b', e, .inl rfl, .inl rfl, Int.le_refl _⟩⟩⟩
  · rw [lk_one, if_neg kNT, h.n]
  · rw [lk_one, if_neg kBT, h.b]
  · rw [lk_one]
    by_cases e : k = j
    · subst e
      rw [if_pos rfl, hbt, ← hb, ← hv]
      unfold setT; rw [if_pos rfl]
    · rw [if_neg (kTT hk hj e), h.tk k hk]
      unfold setT; rw [if_neg e]
  · unfold setT
    split
    · exact hx
    · exact h.tok k hk
  · obtain ⟨a1, a2, a3, a4, a5⟩ := h.nok n' b' e
    exact ⟨a1, by show 0 ≤ n'.life ∧ n'.life ≤ m.rev + 1; omega, by show 0 ≤ b'.life ∧ b'.life ≤ m.rev + 1; omega, a4, by rw [sum_set hj, a5, hu]; omega⟩
  · unfold setT
    split
    · exact fun z => h.no e j hj (hbz z)
    · exact h.no e k hk
/-- the beat only -/
theorem W78.bb {m : SM} {n : NQ} {b : BQ} {t : Nat → TQ} (h : W78 m (some (n, b)) t) {l c : Int} (hl : 0 ≤ l ∧ l ≤ m.rev) (hcn : 0 ≤ c ∧ c ≤ 1000) {cs : List PyData} (hc : GT cs [.tuple [.str "beat", .str "w1", (⟨b.bb, m.rev + 1, l, c⟩ : BQ).V]]) :
    W78 (chg m [.tuple [.str "beat", .str "w1", (⟨b.bb, m.rev + 1, l, c⟩ : BQ).V]] []) (some (n, ⟨b.bb, m.rev + 1, l, c⟩)) t ∧ Nx m (chg m [.tuple [.str "beat", .str "w1", (⟨b.bb, m.rev + 1, l, c⟩ : BQ).V]] []) (some (n, b)) (some (n, ⟨b.bb, m.rev + 1, l, c⟩)) := by
  obtain ⟨a1, a2, a3, a4, a5⟩ := h.nok n b rfl
  have hbb : bornOf m.tab kB (m.rev + 1) = .int b.bb := by unfold bornOf; rw [h.b]; rfl
  refine ⟨⟨h.si.chg hc.isT hc.ok8, ?_, ?_, fun k hk => ?_, h.tok, fun n' b' e => ?_, fun e => by cases e⟩, ⟨by show m.rev ≤ m.rev + 1; omega, rfl, fun n' b' e => ?_⟩⟩
  · rw [lk_one, if_neg kNB, h.n]; rfl
  · rw [lk_one, if_pos rfl, hbb]; rfl
  · rw [lk_one, if_neg kTB, h.tk k hk]
  · cases e
    exact ⟨a1, by show 0 ≤ n.life ∧ n.life ≤ m.rev + 1; omega, by show 0 ≤ l ∧ l ≤ m.rev + 1; omega, hcn, a5⟩
  · cases e
    exact ⟨_, _, rfl, .inl rfl, .inr (by show m.rev < m.rev + 1; omega), Int.le_refl _⟩
/-- what an enrolment puts -/
def enrP (s u l : Int) : List PyData := [.tuple [.str "beat", .str "w1", .tuple [.int l, .int 0]], .tuple [.str "node", .str "w1", .tuple [.int s, .int u, .int l, .int 0, .str "a"]]]
theorem W78.en {m : SM} {nb : Option (NQ × BQ)} {t : Nat → TQ} (h : W78 m nb t) {s u l : Int} (hs : 0 ≤ s ∧ s ≤ 100) (hl : 0 ≤ l ∧ l ≤ m.rev + 1) (hu : u = sumT t) (hlf : ∀ n b, nb = some (n, b) → n.life ≤ l) {cs : List PyData} (hc : GT cs (enrP s u l)) :
    ∃ x y : Int, W78 (chg m (enrP s u l) []) (some (⟨x, m.rev + 1, s, u, l⟩, ⟨y, m.rev + 1, l, 0⟩)) t ∧ Nx m (chg m (enrP s u l) []) nb (some (⟨x, m.rev + 1, s, u, l⟩, ⟨y, m.rev + 1, l, 0⟩)) := by
  have e1 : ∃ x : Int, bornOf m.tab kN (m.rev + 1) = .int x := by
    unfold bornOf; rw [h.n]
    cases nb with
    | none => exact ⟨_, rfl⟩
    | some nb => exact ⟨_, rfl⟩
  have e2 : ∃ x : Int, bornOf m.tab kB (m.rev + 1) = .int x := by
    unfold bornOf; rw [h.b]
    cases nb with
    | none => exact ⟨_, rfl⟩
    | some nb => exact ⟨_, rfl⟩
  obtain ⟨x, e1⟩ := e1
  obtain ⟨y, e2⟩ := e2
  refine ⟨x, y, ⟨h.si.chg hc.isT hc.ok8, ?_, ?_, fun k hk => ?_, h.tok, fun n' b' e => ?_, fun e => by cases e⟩, ⟨by show m.rev ≤ m.rev + 1; omega, rfl, fun n' b' e => ?_⟩⟩
  · unfold enrP
    rw [lk_two kNB, if_pos rfl, e1]; rfl
  · unfold enrP
    rw [lk_two kNB, if_neg kBN, if_pos rfl, e2]; rfl
  · unfold enrP
    rw [lk_two kNB, if_neg kTN, if_neg kTB, h.tk k hk]
  · cases e
    exact ⟨hs, hl, hl, by show (0 : Int) ≤ 0 ∧ (0 : Int) ≤ 1000; omega, hu⟩
  · exact ⟨_, _, rfl, .inr (by show m.rev < m.rev + 1; omega), .inr (by show m.rev < m.rev + 1; omega), hlf n' b' e⟩
theorem nq_inj {n n' : NQ} (h : n.D = n'.D) : n = n' := by
  have h1 := PyData.tuple.inj h
  simp only [List.cons.injEq, PyData.int.injEq, PyData.tuple.injEq, and_true, true_and] at h1
  cases n
  cases n'
  simp_all
theorem bq_inj {n n' : BQ} (h : n.D = n'.D) : n = n' := by
  have h1 := PyData.tuple.inj h
  simp only [List.cons.injEq, PyData.int.injEq, PyData.tuple.injEq, and_true, true_and] at h1
  cases n
  cases n'
  simp_all
theorem tq_inj {t t' : TQ} (h : t.D = t'.D) : t = t' := by
  have h1 := PyData.tuple.inj h
  simp only [List.cons.injEq, PyData.int.injEq, PyData.tuple.injEq, PyData.str.injEq, and_true, true_and] at h1
  cases t
  cases t'
  simp_all
def W (m : SM) : Prop := ∃ nb t, W78 m nb t
structure NxP (m m' : SM) : Prop where
  rv : m.rev ≤ m'.rev
  rv2 : m'.rev ≤ m.rev + 1
  s : m'.s = m.s
  n : ∀ (n : NQ) (b : BQ), lkD m.tab kN = some n.D → lkD m.tab kB = some b.D → ∃ n' b', lkD m'.tab kN = some (NQ.D n') ∧ lkD m'.tab kB = some (BQ.D b') ∧ (n' = n ∨ m.rev < n'.nv) ∧ (b' = b ∨ m.rev < b'.bv) ∧ n.life ≤ n'.life
theorem NxP.refl {m : SM} : NxP m m := ⟨Int.le_refl _, by omega, rfl, fun n b h1 h2 => ⟨n, b, h1, h2, .inl rfl, .inl rfl, Int.le_refl _⟩⟩
theorem NxP.of {m m' : SM} {nb nb' : Option (NQ × BQ)} {t t' : Nat → TQ} (h : W78 m nb t) (h' : W78 m' nb' t') (x : Nx m m' nb nb') (hr : m'.rev ≤ m.rev + 1) : W m' ∧ NxP m m' := by
  refine ⟨⟨nb', t', h'⟩, x.rv, hr, x.s, fun n b h1 h2 => ?_⟩
  rw [h.n] at h1
  rw [h.b] at h2
  cases nb with
  | none => cases h1
  | some z =>
    obtain ⟨n0, b0⟩ := z
    obtain rfl := nq_inj (Option.some.inj h1)
    obtain rfl := bq_inj (Option.some.inj h2)
    obtain ⟨n', b', e, y1, y2, y3⟩ := x.n _ _ rfl
    subst e
    exact ⟨n', b', h'.n, h'.b, y1, y2, y3⟩
theorem W78.sum_le {m : SM} {nb : Option (NQ × BQ)} {t : Nat → TQ} (h : W78 m nb t) : 0 ≤ sumT t ∧ sumT t ≤ 90 := by
  have h0 := cost_le (h.tok 0 (by omega))
  have h1 := cost_le (h.tok 1 (by omega))
  have h2 := cost_le (h.tok 2 (by omega))
  unfold sumT
  omega
theorem W78.cost_sum {m : SM} {nb : Option (NQ × BQ)} {t : Nat → TQ} (h : W78 m nb t) {j : Nat} (hj : j < 3) : costT (t j) ≤ sumT t := by
  have h0 := cost_le (h.tok 0 (by omega))
  have h1 := cost_le (h.tok 1 (by omega))
  have h2 := cost_le (h.tok 2 (by omega))
  unfold sumT
  rcases (by omega : j = 0 ∨ j = 1 ∨ j = 2) with rfl | rfl | rfl <;> omega
/-! # the law's deeds -/
section
variable {P : Program} {w : World} {K : PySem.W.Frag} {mg : Str → Option Value} {base : Heap}
theorem ok__law_refused (T : TX K mg w) (TB : LamX.TabB base mg T.cc__sorted_by_key T.pp__sorted_by_key) : FnOk P w K mg base CX0 9 T.a__law_refused T.d__law_refused ["store", "transaction", "kept"] (spA (sR K T) K (fun m rs => ∃ cs ps, rs = [.v (.ref m.s), .d (.tuple [.tuple cs, .tuple ps, .tuple []]), .l (entsD m.tab)] ∧ SI m ∧ m.rev ≤ 500 ∧ GT cs ps ∧ (heldL m.tab cs []).all id = false) (fun m rs r m' => r = .d (.bool true) ∧ m' = m)) := by
  refine okA T.F__law_refused sc__law_refused 1 rfl (fun m rs ⟨_, _, e, _⟩ => by rw [e]; rfl) fun cdv A outer s H E hr => ⟨_, (pss_cons (ps_set (i := 3) sc__law_refused.nd rfl (Or.inl rfl) (pe_meth (pv 0) T.K_Store T.m_Store_apply (ok_Store_apply T TB) (hr.mono (by decide)) T.b_Store_apply .nil passL (pa_cons (pv 1) pa_nil)))
      (pss_one (ps_ret (pe_and (pe_cmpR op_eq (pe_ix (ixK_tup (K := K) rfl) (pv 3) pe_int (fun _ _ => rfl)) pe_str (nomark _)) (pe_one (pe_cmpR (opK_eqD (K := K) rfl hr.units) (pe_meth0 (pv 0) T.K_Store T.m_Store_entries (ok_Store_entries T) (hr.mono (by decide)) T.b_Store_entries .nil pass0) (pv 2) (nomark _))))))), fun m rs hd => ?_⟩
  obtain ⟨cs, ps, rfl, hsi, hrv, hg, hh⟩ := hd
  have hen := hsi.okE (by omega)
  walk_at "pn"
  refine ws_seq (ws_asg (we_meth (at_ := SM.s) (clsS fun _ => rfl) rfl ?_))
  walk_at "px"
  refine ⟨⟨_, rfl, hg.ok8, hg.isT, hsi.ok (by omega)⟩, fun _ z => z, fun r m2 hr2 => ?_⟩
  have hr2 : Ans m cs ps [] r m2 := hr2 _ _ _ rfl
  obtain ⟨em, j, er, _⟩ := hr2.2 hh
  subst em er
  walk_at "pn"
  walk_at "px"
  refine we_entM rfl hsi (by omega) ?_
  walk_at "px"
  rw [eqv_okE hen]
  exact ⟨rfl, rfl⟩
theorem ans_all {m m2 : SM} {cs ps : List PyData} {r : Rk} (ha : Ans m cs ps [] r m2) (hh : (heldL m.tab cs []).all id = true) (hp : ps ≠ []) : m2 = chg m ps [] ∧ r = .d (.tuple [.str "done", .int m2.rev]) := by
  obtain ⟨e1, e2⟩ := ha.1 hh
  refine ⟨?_, e2⟩
  rw [e1]
  unfold newSt
  rw [if_neg]
  cases ps with
  | nil => exact absurd rfl hp
  | cons x xs => simp
theorem ok__law_bind (T : TX K mg w) (TB : LamX.TabB base mg T.cc__sorted_by_key T.pp__sorted_by_key) : FnOk P w K mg base CX0 9 T.a__law_bind T.d__law_bind ["store", "slot"] (spA (sR K T) K (fun m rs => ∃ j, rs = [.v (.ref m.s), .d (.str (slotS j))] ∧ W m ∧ j < 3 ∧ m.rev ≤ 200) (fun m rs r m' => r = .d .none ∧ W m' ∧ NxP m m')) := by
  refine okA T.F__law_bind sc__law_bind 6 rfl (fun m rs ⟨_, e, _⟩ => by rw [e]; rfl) fun cdv A outer s H E hr => ⟨_, (pss_cons (ps_set (i := 2) sc__law_bind.nd rfl (Or.inl rfl) (pe_meth (pv 0) T.K_Store T.m_Store_entry (ok_Store_entry T) (hr.mono (by decide)) T.b_Store_entry .nil pass0 (pa_cons pe_str (pa_cons (pv 1) pa_nil))))
      (pss_cons (ps_set (i := 3) sc__law_bind.nd rfl (Or.inl rfl) (pe_meth (pv 0) T.K_Store T.m_Store_entry (ok_Store_entry T) (hr.mono (by decide)) T.b_Store_entry .nil pass0 (pa_cons pe_str (pa_cons pe_str pa_nil))))
      (pss_cons (ps_if (PW.pt (pw_or (pt_cmpR op_isN1 (pv 3) pe_non (nomark _)) (pw_or1 (pt_cmpR op_ne (pe_ix (ixK_tup (K := K) rfl) (pe_ix (ixK_tup (K := K) rfl) (pv 2) pe_int (fun _ _ => rfl)) pe_int (fun _ _ => rfl)) pe_str (nomark _))))) (pss_one ps_retN) pss_nil)
      (pss_cons (ps_set (i := 4) sc__law_bind.nd rfl (Or.inl rfl) (pe_ix (ixK_tup (K := K) rfl) (pv 2) pe_int (fun _ _ => rfl)))
      (pss_cons (ps_set (i := 5) sc__law_bind.nd rfl (Or.inl rfl) (pe_ix (ixK_tup (K := K) rfl) (pv 3) pe_int (fun _ _ => rfl)))
      (pss_cons (ps_set (i := 6) sc__law_bind.nd rfl (Or.inl rfl) (pe_op (opK_catA (K := K) rfl) (pe_slice (slK_tupA (K := K) rfl) (pv 4) po_none (po_some pe_int)) (pe_tup (pa_cons pe_str (pa_cons (pe_ix (ixK_tup (K := K) rfl) (pv 4) pe_int (fun _ _ => rfl)) (pa_cons pe_str (pa_cons (pe_ix (ixK_tup (K := K) rfl) (pv 5) pe_int (fun _ _ => rfl)) (pa_cons pe_str pa_nil))))))))
      (pss_cons (ps_set (i := 7) sc__law_bind.nd rfl (Or.inl rfl) (pe_op (opK_catA (K := K) rfl) (pe_tup (pa_cons (pe_ix (ixK_tup (K := K) rfl) (pv 5) pe_int (fun _ _ => rfl)) (pa_cons (pe_op op_add (pe_ix (ixK_tup (K := K) rfl) (pv 5) pe_int (fun _ _ => rfl)) (pe_ix (ixK_tup (K := K) rfl) (pv 4) pe_int (fun _ _ => rfl))) pa_nil))) (pe_slice (slK_tupA (K := K) rfl) (pv 5) (po_some pe_int) po_none)))
      (pss_one (ps_expr (pe_meth (pv 0) T.K_Store T.m_Store_apply (ok_Store_apply T TB) (hr.mono (by decide)) T.b_Store_apply .nil passL (pa_cons (pe_tup (pa_cons (pe_tup pa_nil) (pa_cons (pe_tup (pa_cons (pe_tup (pa_cons pe_str (pa_cons pe_str (pa_cons (pv 7) pa_nil)))) (pa_cons (pe_tup (pa_cons pe_str (pa_cons (pv 1) (pa_cons (pv 6) pa_nil)))) pa_nil))) (pa_cons (pe_tup pa_nil) pa_nil)))) pa_nil))))))))))), fun m rs hd => ?_⟩
  obtain ⟨j, rfl, hW, hj, hrv⟩ := hd
  have hW0 := hW
  obtain ⟨nb, t, h⟩ := hW
  have ht := h.tk j hj
  have htok := h.tok j hj
  have hsi := h.si
  have r0 := hsi.r0
  walk_at "pn"
  refine ws_seq (ws_asg (we_meth (at_ := SM.s) (clsS fun _ => rfl) rfl ?_))
  walk_at "px"
  refine ⟨⟨_, _, rfl⟩, fun _ z => z, fun r m2 ⟨em, er⟩ => ?_⟩
  have er := er _ _ rfl
  subst em er
  rw [ht]
  walk_at "pn"
  refine ws_seq (ws_asg (we_meth (at_ := SM.s) (clsS fun _ => rfl) rfl ?_))
  walk_at "px"
  refine ⟨⟨_, _, rfl⟩, fun _ z => z, fun r m3 ⟨em, er⟩ => ?_⟩
  have er := er _ _ rfl
  subst em er
  have hn := h.n
  cases nb with
  | none =>
    rw [hn]
    dsimp only [Option.getD, Option.map]
    walk_at "px"
    exact NxP.refl
  | some nb =>
    obtain ⟨n, b⟩ := nb
    rw [hn]
    dsimp only [Option.getD, Option.map]
    walk_at "px"
    by_cases hnew : (t j).state = "new"
    · rw [decide_eq_true hnew]
      refine ⟨fun z => (by cases z), fun _ => ?_⟩
      obtain ⟨a1, a2, a3, a4, a5⟩ := h.nok n b rfl
      have hc0 : costT (t j) = 0 := by
        unfold costT
        rw [if_neg]
        unfold isBusy
        rw [hnew]
        decide +kernel
      have hsz := htok.sz
      have hx : (⟨(t j).tb, m3.rev + 1, (t j).sz, "bound", (t j).st, "w1", n.life⟩ : TQ).Ok := ⟨htok.sz, htok.st, .inr (.inl rfl), .inr rfl, by show 0 ≤ n.life ∧ n.life ≤ 1000; omega⟩
      have hcx : costT (⟨(t j).tb, m3.rev + 1, (t j).sz, "bound", (t j).st, "w1", n.life⟩ : TQ) = (t j).sz := by
        unfold costT
        rw [if_pos (.inl rfl)]
      have hsum := h.sum_le
      have hg : GT [] [.tuple [.str "node", .str "w1", (⟨n.nb, m3.rev + 1, n.size, n.used + (t j).sz, n.life⟩ : NQ).V], .tuple [.str "task", .str (slotS j), (⟨(t j).tb, m3.rev + 1, (t j).sz, "bound", (t j).st, "w1", n.life⟩ : TQ).V]] :=
        ⟨by show 0 ≤ 3; omega, by show 2 ≤ 3; omega, rfl, by rw [List.all_cons, List.all_cons, put_n (by show 0 ≤ n.size ∧ n.size ≤ 1000; omega) (by show 0 ≤ n.used + (t j).sz ∧ n.used + (t j).sz ≤ 1000; omega) (by show 0 ≤ n.life ∧ n.life ≤ 1000; omega), put_t hj hx]; rfl, nd2 kNT⟩
      have hW2 := h.nt hj (u := n.used + (t j).sz) hx rfl rfl (by rw [hc0, hcx]; omega) hg
      walk_at "px"
      refine we_meth (at_ := SM.s) (clsS fun _ => rfl) rfl ?_
      walk_at "px"
      refine ⟨⟨_, rfl, hg.ok8, hg.isT, hsi.ok (by omega)⟩, fun _ z => z, fun r m4 hr4 => ?_⟩
      obtain ⟨em, _⟩ := ans_all (cs := []) (hr4 _ _ _ rfl) rfl (by simp)
      rw [em]
      exact ⟨rfl, NxP.of h hW2.1 hW2.2 (Int.le_refl _)⟩
    · rw [decide_eq_false hnew]
      refine ⟨fun _ => ?_, fun z => (by cases z)⟩
      walk_at "px"
      exact NxP.refl
theorem hold_t {m : SM} {s : Str} {t : TQ} (h : lkD m.tab [.inr "task", .inr s] = some t.D) {r : Int} : holdB m.tab (.tuple [.str "task", .str s, .int r]) = decide (r = t.tr) := by
  show (match lkD m.tab [.inr "task", .inr s] with | some (.tuple [_, .int v, _]) => decide (r = v) | _ => decide (r = 0)) = _
  rw [h]
theorem hold_n {m : SM} {n : NQ} (h : lkD m.tab kN = some n.D) {r : Int} : holdB m.tab (.tuple [.str "node", .str "w1", .int r]) = decide (r = n.nv) := by
  show (match lkD m.tab [.inr "node", .inr "w1"] with | some (.tuple [_, .int v, _]) => decide (r = v) | _ => decide (r = 0)) = _
  rw [h]
theorem hold_b {m : SM} {b : BQ} (h : lkD m.tab kB = some b.D) {r : Int} : holdB m.tab (.tuple [.str "beat", .str "w1", .int r]) = decide (r = b.bv) := by
  show (match lkD m.tab [.inr "beat", .inr "w1"] with | some (.tuple [_, .int v, _]) => decide (r = v) | _ => decide (r = 0)) = _
  rw [h]
theorem hold_n0 {m : SM} (h : lkD m.tab kN = none) {r : Int} : holdB m.tab (.tuple [.str "node", .str "w1", .int r]) = decide (r = 0) := by
  show (match lkD m.tab [.inr "node", .inr "w1"] with | some (.tuple [_, .int v, _]) => decide (r = v) | _ => decide (r = 0)) = _
  rw [h]
theorem hold_b0 {m : SM} (h : lkD m.tab kB = none) {r : Int} : holdB m.tab (.tuple [.str "beat", .str "w1", .int r]) = decide (r = 0) := by
  show (match lkD m.tab [.inr "beat", .inr "w1"] with | some (.tuple [_, .int v, _]) => decide (r = v) | _ => decide (r = 0)) = _
  rw [h]
theorem okx_lt8 {n : Nat} {xs : List PyData} (hl : xs.length ≤ 1000) (h : xs.all (okx n) = true) : okx (n + 1) (.tuple xs) = true := okx_tupJ hl fun x hx => List.all_eq_true.mp h x hx
theorem a_okx (n : Nat) : okx n (.str "a") = true := okx_mono (Nat.zero_le n) (by decide +kernel)
theorem nq_okx {n : NQ} : okx 8 n.D = true := okx_lt8 (by show 3 ≤ 1000; omega) (by
  show (true && (true && (okx 7 n.V && true))) = true
  rw [show okx 7 n.V = true from okx_lt8 (by show 5 ≤ 1000; omega) (by
    show (true && (true && (true && (true && (okx 6 (.str "a") && true))))) = true
    rw [a_okx]; rfl)]
  rfl)
theorem bq_okx {b : BQ} : okx 8 b.D = true := rfl
theorem tq_eqv {t t' : TQ} (h : PyData.eqv t.D t'.D = true) : t.tr = t'.tr := by
  simp only [PyData.eqv, PyData.eqvAll, Bool.and_true, Bool.and_eq_true, beq_iff_eq] at h
  exact h.2.1
theorem ok__law_start (T : TX K mg w) (TB : LamX.TabB base mg T.cc__sorted_by_key T.pp__sorted_by_key) : FnOk P w K mg base CX0 10 T.a__law_start T.d__law_start ["store", "slot", "entry"] (spA (sR K T) K (fun m rs => ∃ j t e, rs = [.v (.ref m.s), .d (.str (slotS j)), .d (.tuple [.int (TQ.tb t), .int e, t.V])] ∧ W m ∧ j < 3 ∧ m.rev ≤ 200 ∧ lkD m.tab (kT j) = some t.D ∧ t.state = "bound" ∧ (e = t.tr ∨ e = t.tr - 1)) (fun m rs r m' => r = .d (.bool true) ∧ W m' ∧ NxP m m')) := by
  refine okA T.F__law_start sc__law_start 3 rfl (fun m rs ⟨_, _, _, e, _⟩ => by rw [e]; rfl) fun cdv A outer s H E hr => ⟨_, (pss_cons (ps_set (i := 3) sc__law_start.nd rfl (Or.inl rfl) (pe_meth (pv 0) T.K_Store T.m_Store_entry (ok_Store_entry T) (hr.mono (by decide)) T.b_Store_entry .nil pass0 (pa_cons pe_str (pa_cons (pv 1) pa_nil))))
      (pss_cons (ps_set (i := 4) sc__law_start.nd rfl (Or.inl rfl) (pe_meth0 (pv 0) T.K_Store T.m_Store_entries (ok_Store_entries T) (hr.mono (by decide)) T.b_Store_entries .nil pass0))
      (pss_cons (ps_if (pt_cmpR (opK_neD (K := K) rfl hr.units) (pv 2) (pv 3) (nomark _)) (pss_one (ps_ret (pe_call (ok__law_refused T TB) (hr.mono (by decide)) (by rfl) T.g__law_refused T.F__law_refused.kp T.b__law_refused .nil pass0 (pa_cons (pv 0) (pa_cons (pe_call (ok_start_transaction T) (hr.mono (by decide)) (by rfl) T.g_start_transaction T.F_start_transaction.kp T.b_start_transaction .nil pass0 (pa_cons (pv 1) (pa_cons (pv 2) pa_nil))) (pa_cons (pv 4) pa_nil)))))) pss_nil)
      (pss_cons (ps_if (pt_cmpR op_ne (pe_ix (ixK_tup (K := K) rfl) (pe_meth (pv 0) T.K_Store T.m_Store_apply (ok_Store_apply T TB) (hr.mono (by decide)) T.b_Store_apply .nil passL (pa_cons (pe_call (ok_start_transaction T) (hr.mono (by decide)) (by rfl) T.g_start_transaction T.F_start_transaction.kp T.b_start_transaction .nil pass0 (pa_cons (pv 1) (pa_cons (pv 2) pa_nil))) pa_nil)) pe_int (fun _ _ => rfl)) pe_str (nomark _)) (pss_one (ps_ret pe_bl)) pss_nil)
      (pss_cons (ps_set (i := 5) sc__law_start.nd rfl (Or.inl rfl) (pe_ix (ixK_tup (K := K) rfl) (pv 3) pe_int (fun _ _ => rfl)))
      (pss_one (ps_ret (pe_cmpR (opK_eqD (K := K) rfl hr.units) (pe_ix (ixK_tup (K := K) rfl) (pe_meth (pv 0) T.K_Store T.m_Store_entry (ok_Store_entry T) (hr.mono (by decide)) T.b_Store_entry .nil pass0 (pa_cons pe_str (pa_cons (pv 1) pa_nil))) pe_int (fun _ _ => rfl)) (pe_op (opK_catA (K := K) rfl) (pe_op (opK_catA (K := K) rfl) (pe_slice (slK_tupA (K := K) rfl) (pv 5) po_none (po_some pe_int)) (pe_tup (pa_cons pe_str pa_nil))) (pe_slice (slK_tupA (K := K) rfl) (pv 5) (po_some pe_int) po_none)) (nomark _))))))))), fun m rs hd => ?_⟩
  obtain ⟨j, x, e, rfl, hW, hj, hrv, hx, hst, he⟩ := hd
  have hW0 := hW
  obtain ⟨nb, t, h⟩ := hW
  have ht := h.tk j hj
  rw [hx] at ht
  obtain rfl := tq_inj (Option.some.inj ht)
  have htok := h.tok j hj
  have hte := h.tent hj
  have hsi := h.si
  have r0 := hsi.r0
  have hoD := hsi.entO hx
  have hoE : okx 8 (.tuple [.int (t j).tb, .int e, (t j).V]) = true := okx_lt8 (by show 3 ≤ 1000; omega) (by
    show (true && (true && (okx 7 (t j).V && true))) = true
    rw [okx_in hoD (by simp)]
    rfl)
  have hy : (⟨(t j).tb, m.rev + 1, (t j).sz, "running", (t j).st, (t j).nd, (t j).lf⟩ : TQ).Ok := ⟨htok.sz, htok.st, .inr (.inr (.inl rfl)), htok.nd, htok.lf⟩
  have hg : GT [.tuple [.str "task", .str (slotS j), .int e]] [.tuple [.str "task", .str (slotS j), (⟨(t j).tb, m.rev + 1, (t j).sz, "running", (t j).st, (t j).nd, (t j).lf⟩ : TQ).V]] :=
    ⟨by show 1 ≤ 3; omega, by show 1 ≤ 3; omega, by rw [List.all_cons, cond_t hj (by omega) (by omega)]; rfl, by rw [List.all_cons, put_t hj hy]; rfl, nd1⟩
  have hhl : heldL m.tab [.tuple [.str "task", .str (slotS j), .int e]] [] = [decide (e = (t j).tr)] := by
    show [holdB m.tab _] ++ [] = _
    rw [hold_t hx]; rfl
  walk_at "pn"
  refine ws_seq (ws_asg (we_meth (at_ := SM.s) (clsS fun _ => rfl) rfl ?_))
  walk_at "px"
  refine ⟨⟨_, _, rfl⟩, fun _ z => z, fun r m2 ⟨em, er⟩ => ?_⟩
  have er := er _ _ rfl
  subst em er
  rw [hx]
  walk_at "pn"
  refine ws_seq (ws_asg (we_entM rfl hsi (by omega) ?_))
  walk_at "pn"
  walk_at "px"
  dsimp only [Option.getD]
  by_cases hee : e = (t j).tr
  · subst hee
    rw [eqv_okE hoE]
    refine ⟨fun z => (by cases z), fun _ => ?_⟩
    have hcst : costT (⟨(t j).tb, m2.rev + 1, (t j).sz, "running", (t j).st, (t j).nd, (t j).lf⟩ : TQ) = costT (t j) := by
      unfold costT
      rw [if_pos (.inr rfl), if_pos (.inl hst)]
    have hW2 := h.tt hj hy rfl rfl hcst (fun _ => .inl hst) hg
    have hlk := hW2.1.tk j hj
    have hset : setT t j (⟨(t j).tb, m2.rev + 1, (t j).sz, "running", (t j).st, (t j).nd, (t j).lf⟩ : TQ) j = ⟨(t j).tb, m2.rev + 1, (t j).sz, "running", (t j).st, (t j).nd, (t j).lf⟩ := by unfold setT; rw [if_pos rfl]
    rw [hset] at hlk
    have hNx := NxP.of h hW2.1 hW2.2 (Int.le_refl _)
    have hsi2 := hW2.1.si
    have hoD2 := hsi2.entO hlk
    walk_at "pn"
    refine ws_next ?_
    refine ws_seq (ws_if (wt_test ?_))
    walk_at "px"
    refine we_meth (at_ := SM.s) (clsS fun _ => rfl) rfl ?_
    refine wa_cons (we_callP ?_)
    walk_at "px"
    refine ⟨⟨_, _, _, _, _, _, _, _, _, _, _, rfl⟩, fun r hr2 => ?_⟩
    obtain rfl := hr2 _ _ _ _ _ _ _ _ _ _ _ rfl
    walk_at "px"
    refine ⟨⟨_, rfl, hg.ok8, hg.isT, hsi.ok (by omega)⟩, fun _ z => z, fun r m4 hr4 => ?_⟩
    obtain ⟨em, er⟩ := ans_all (hr4 _ _ _ rfl) (by rw [hhl, decide_eq_true rfl]; rfl) (by simp)
    have em : m4 = chg m2 [.tuple [.str "task", .str (slotS j), (⟨(t j).tb, m2.rev + 1, (t j).sz, "running", (t j).st, (t j).nd, (t j).lf⟩ : TQ).V]] [] := em
    rw [← em] at hlk hNx hsi2
    have hs4 : m4.s = m2.s := by rw [em]; rfl
    rw [← hs4]
    subst er
    have hoV := okx_in hoD2 (show (⟨(t j).tb, m2.rev + 1, (t j).sz, "running", (t j).st, (t j).nd, (t j).lf⟩ : TQ).V ∈ _ from by simp)
    walk_at "px"
    rw [hlk]
    dsimp only [Option.getD]
    walk_at "px"
    exact ⟨congrArg (fun b => Rk.d (.bool b)) (eqv_okE hoV), hNx⟩
  · have hne : PyData.eqv (.tuple [.int (t j).tb, .int e, (t j).V]) (t j).D = false := by
      rw [Bool.eq_false_iff]
      intro z
      simp only [PyData.eqv, PyData.eqvAll, Bool.and_true, Bool.and_eq_true, beq_iff_eq] at z
      exact hee z.2.1
    rw [hne]
    refine ⟨fun _ => ?_, fun z => (by cases z)⟩
    refine ws_ret (we_callA ?_)
    walk_at "px"
    refine we_callP ?_
    walk_at "px"
    refine ⟨⟨_, _, _, _, _, _, _, _, _, _, _, rfl⟩, fun r hr2 => ?_⟩
    obtain rfl := hr2 _ _ _ _ _ _ _ _ _ _ _ rfl
    walk_at "px"
    refine ⟨⟨_, _, rfl, hsi, by omega, hg, by rw [hhl, decide_eq_false hee]; rfl⟩, fun r m3 ⟨er, em⟩ => ?_⟩
    subst er em
    exact ⟨rfl, hW0, NxP.refl⟩
end
/-! # beats and ends -/
section
variable {P : Program} {w : World} {K : PySem.W.Frag} {mg : Str → Option Value} {base : Heap}
theorem W78.some_b {m : SM} {nb : Option (NQ × BQ)} {t : Nat → TQ} (h : W78 m nb t) {b : BQ} (e : lkD m.tab kB = some b.D) : ∃ n, nb = some (n, b) := by
  rw [h.b] at e
  cases nb with
  | none => cases e
  | some z =>
    obtain ⟨n, b0⟩ := z
    obtain rfl : b0 = b := bq_inj (Option.some.inj e)
    exact ⟨n, rfl⟩
theorem W78.some_n {m : SM} {nb : Option (NQ × BQ)} {t : Nat → TQ} (h : W78 m nb t) {n : NQ} (e : lkD m.tab kN = some n.D) : ∃ b, nb = some (n, b) := by
  rw [h.n] at e
  cases nb with
  | none => cases e
  | some z =>
    obtain ⟨n0, b⟩ := z
    obtain rfl : n0 = n := nq_inj (Option.some.inj e)
    exact ⟨b, rfl⟩
theorem ok__law_beat (T : TX K mg w) (TB : LamX.TabB base mg T.cc__sorted_by_key T.pp__sorted_by_key) : FnOk P w K mg base CX0 10 T.a__law_beat T.d__law_beat ["store", "rev", "number"] (spA (sR K T) K (fun m rs => ∃ e c b, rs = [.v (.ref m.s), .d (.int e), .d (.int c)] ∧ W m ∧ m.rev ≤ 200 ∧ 0 ≤ c ∧ c ≤ 500 ∧ lkD m.tab kB = some (BQ.D b) ∧ (e = b.bv ∨ e = b.bv - 1)) (fun m rs r m' => r = .d (.bool true) ∧ W m' ∧ NxP m m')) := by
  refine okA T.F__law_beat sc__law_beat 3 rfl (fun m rs ⟨_, _, _, e, _⟩ => by rw [e]; rfl) fun cdv A outer s H E hr => ⟨_, (pss_cons (ps_set (i := 3) sc__law_beat.nd rfl (Or.inl rfl) (pe_meth (pv 0) T.K_Store T.m_Store_entry (ok_Store_entry T) (hr.mono (by decide)) T.b_Store_entry .nil pass0 (pa_cons pe_str (pa_cons pe_str pa_nil))))
      (pss_cons (ps_set (i := 4) sc__law_beat.nd rfl (Or.inl rfl) (pe_meth0 (pv 0) T.K_Store T.m_Store_entries (ok_Store_entries T) (hr.mono (by decide)) T.b_Store_entries .nil pass0))
      (pss_cons (ps_if (PW.pt (pw_or (pt_cmpR op_isN1 (pv 3) pe_non (nomark _)) (pw_or1 (pt_cmpR op_ne (pv 1) (pe_ix (ixK_tup (K := K) rfl) (pv 3) pe_int (fun _ _ => rfl)) (nomark _))))) (pss_one (ps_ret (pe_call (ok__law_refused T TB) (hr.mono (by decide)) (by rfl) T.g__law_refused T.F__law_refused.kp T.b__law_refused .nil pass0 (pa_cons (pv 0) (pa_cons (pe_call (ok_beat_transaction T) (hr.mono (by decide)) (by rfl) T.g_beat_transaction T.F_beat_transaction.kp T.b_beat_transaction .nil pass0 (pa_cons pe_str (pa_cons (pv 1) (pa_cons pe_int (pa_cons (pv 2) pa_nil))))) (pa_cons (pv 4) pa_nil)))))) pss_nil)
      (pss_cons (ps_set (i := 5) sc__law_beat.nd rfl (Or.inl rfl) (pe_ix (ixK_tup (K := K) rfl) (pe_ix (ixK_tup (K := K) rfl) (pv 3) pe_int (fun _ _ => rfl)) pe_int (fun _ _ => rfl)))
      (pss_cons (ps_if (pt_cmpR op_ne (pe_ix (ixK_tup (K := K) rfl) (pe_meth (pv 0) T.K_Store T.m_Store_apply (ok_Store_apply T TB) (hr.mono (by decide)) T.b_Store_apply .nil passL (pa_cons (pe_call (ok_beat_transaction T) (hr.mono (by decide)) (by rfl) T.g_beat_transaction T.F_beat_transaction.kp T.b_beat_transaction .nil pass0 (pa_cons pe_str (pa_cons (pv 1) (pa_cons (pv 5) (pa_cons (pv 2) pa_nil))))) pa_nil)) pe_int (fun _ _ => rfl)) pe_str (nomark _)) (pss_one (ps_ret pe_bl)) pss_nil)
      (pss_one (ps_ret (pe_cmpR (opK_eqD (K := K) rfl hr.units) (pe_ix (ixK_tup (K := K) rfl) (pe_meth (pv 0) T.K_Store T.m_Store_entry (ok_Store_entry T) (hr.mono (by decide)) T.b_Store_entry .nil pass0 (pa_cons pe_str (pa_cons pe_str pa_nil))) pe_int (fun _ _ => rfl)) (pe_tup (pa_cons (pv 5) (pa_cons (pe_op op_add (pv 2) pe_int) pa_nil))) (nomark _))))))))), fun m rs hd => ?_⟩
  obtain ⟨e, c, b, rfl, hW, hrv, c0, c1, hb, he⟩ := hd
  have hW0 := hW
  obtain ⟨nb, t, h⟩ := hW
  obtain ⟨n, rfl⟩ := h.some_b hb
  obtain ⟨a1, a2, a3, a4, a5⟩ := h.nok n b rfl
  have hent := (h.ent rfl).2
  have hsi := h.si
  have r0 := hsi.r0
  have hg : ∀ l : Int, 0 ≤ l ∧ l ≤ 1000 → GT [.tuple [.str "beat", .str "w1", .int e]] [.tuple [.str "beat", .str "w1", (⟨b.bb, m.rev + 1, l, c + 1⟩ : BQ).V]] := fun l hl =>
    ⟨by show 1 ≤ 3; omega, by show 1 ≤ 3; omega, by rw [List.all_cons, cond_b (by omega) (by omega)]; rfl, by rw [List.all_cons, put_b hl (by show 0 ≤ c + 1 ∧ c + 1 ≤ 1000; omega)]; rfl, nd1⟩
  have hhl : heldL m.tab [.tuple [.str "beat", .str "w1", .int e]] [] = [decide (e = b.bv)] := by
    show [holdB m.tab _] ++ [] = _
    rw [hold_b hb]; rfl
  walk_at "pn"
  refine ws_seq (ws_asg (we_meth (at_ := SM.s) (clsS fun _ => rfl) rfl ?_))
  walk_at "px"
  refine ⟨⟨_, _, rfl⟩, fun _ z => z, fun r m2 ⟨em, er⟩ => ?_⟩
  have er := er _ _ rfl
  subst em er
  rw [hb]
  walk_at "pn"
  refine ws_seq (ws_asg (we_entM rfl hsi (by omega) ?_))
  dsimp only [Option.getD]
  walk_at "pn"
  walk_at "px"
  by_cases hee : e = b.bv
  · rw [decide_eq_true hee]
    refine ⟨fun z => (by cases z), fun _ => ?_⟩
    have hgl := hg b.life (by omega)
    have hW2 := h.bb (l := b.life) (c := c + 1) a3 (by omega) hgl
    have hlk := hW2.1.b
    have hNx := NxP.of h hW2.1 hW2.2 (Int.le_refl _)
    have hsi2 := hW2.1.si
    have hlk : lkD (chg m2 [.tuple [.str "beat", .str "w1", (⟨b.bb, m2.rev + 1, b.life, c + 1⟩ : BQ).V]] []).tab [.inr "beat", .inr "w1"] = some (BQ.D ⟨b.bb, m2.rev + 1, b.life, c + 1⟩) := hlk
    walk_at "pn"
    refine ws_next ?_
    refine ws_mid [.v (.ref m2.s), .d (.int e), .d (.int c), .d b.D, .o (entsD m2.tab), .d (.int b.life)] (by walk_at "px"; exact rfl) ?_
    refine ws_seq (ws_if (wt_test ?_))
    walk_at "px"
    refine we_meth (at_ := SM.s) (clsS fun _ => rfl) rfl ?_
    refine wa_cons (we_callP ?_)
    walk_at "px"
    refine ⟨⟨_, _, _, _, rfl⟩, fun r hr2 => ?_⟩
    obtain rfl := hr2 _ _ _ _ rfl
    walk_at "px"
    refine ⟨⟨_, rfl, hgl.ok8, hgl.isT, hsi.ok (by omega)⟩, fun _ z => z, fun r m4 hr4 => ?_⟩
    obtain ⟨em, er⟩ := ans_all (hr4 _ _ _ rfl) (by rw [hhl, decide_eq_true hee]; rfl) (by simp)
    have em : m4 = chg m2 [.tuple [.str "beat", .str "w1", (⟨b.bb, m2.rev + 1, b.life, c + 1⟩ : BQ).V]] [] := em
    rw [← em] at hlk hNx hsi2
    have hs4 : m4.s = m2.s := by rw [em]; rfl
    rw [← hs4]
    subst er
    have hoV : okx 8 (.tuple [.int b.life, .int (c + 1)]) = true := rfl
    walk_at "px"
    rw [hlk]
    dsimp only [Option.getD]
    walk_at "px"
    exact ⟨congrArg (fun b => Rk.d (.bool b)) (eqv_okE hoV), hNx⟩
  · rw [decide_eq_false hee]
    refine ⟨fun _ => ?_, fun z => (by cases z)⟩
    have hgl := hg 3 (by omega)
    refine ws_ret (we_callA ?_)
    walk_at "px"
    refine we_callP ?_
    walk_at "px"
    refine ⟨⟨_, _, _, _, rfl⟩, fun r hr2 => ?_⟩
    obtain rfl := hr2 _ _ _ _ rfl
    walk_at "px"
    refine ⟨⟨_, _, rfl, hsi, by omega, hgl, by rw [hhl, decide_eq_false hee]; rfl⟩, fun r m3 ⟨er, em⟩ => ?_⟩
    subst er em
    exact ⟨rfl, hW0, NxP.refl⟩
theorem ok__law_end (T : TX K mg w) (TB : LamX.TabB base mg T.cc__sorted_by_key T.pp__sorted_by_key) : FnOk P w K mg base CX0 10 T.a__law_end T.d__law_end ["store", "slot", "entry", "node"] (spA (sR K T) K (fun m rs => ∃ j x f n, rs = [.v (.ref m.s), .d (.str (slotS j)), .d (TQ.D x), .d (.tuple [.int (NQ.nb n), .int f, n.V])] ∧ W m ∧ j < 3 ∧ m.rev ≤ 200 ∧ lkD m.tab (kT j) = some x.D ∧ isBusy x ∧ lkD m.tab kN = some n.D ∧ (f = n.nv ∨ f = n.nv - 1)) (fun m rs r m' => r = .d (.bool true) ∧ W m' ∧ NxP m m')) := by
  refine okA T.F__law_end sc__law_end 6 rfl (fun m rs ⟨_, _, _, _, e, _⟩ => by rw [e]; rfl) fun cdv A outer s H E hr => ⟨_, (pss_cons (ps_set (i := 4) sc__law_end.nd rfl (Or.inl rfl) (pe_meth (pv 0) T.K_Store T.m_Store_entry (ok_Store_entry T) (hr.mono (by decide)) T.b_Store_entry .nil pass0 (pa_cons pe_str (pa_cons (pv 1) pa_nil))))
      (pss_cons (ps_set (i := 5) sc__law_end.nd rfl (Or.inl rfl) (pe_meth (pv 0) T.K_Store T.m_Store_entry (ok_Store_entry T) (hr.mono (by decide)) T.b_Store_entry .nil pass0 (pa_cons pe_str (pa_cons pe_str pa_nil))))
      (pss_cons (ps_set (i := 6) sc__law_end.nd rfl (Or.inl rfl) (pe_meth0 (pv 0) T.K_Store T.m_Store_entries (ok_Store_entries T) (hr.mono (by decide)) T.b_Store_entries .nil pass0))
      (pss_cons (ps_if (PW.pt (pw_or (pt_cmpR (opK_neD (K := K) rfl hr.units) (pv 2) (pv 4) (nomark _)) (pw_or1 (pt_cmpR (opK_neD (K := K) rfl hr.units) (pv 3) (pv 5) (nomark _))))) (pss_one (ps_ret (pe_call (ok__law_refused T TB) (hr.mono (by decide)) (by rfl) T.g__law_refused T.F__law_refused.kp T.b__law_refused .nil pass0 (pa_cons (pv 0) (pa_cons (pe_call (ok_end_transaction T) (hr.mono (by decide)) (by rfl) T.g_end_transaction T.F_end_transaction.kp T.b_end_transaction .nil pass0 (pa_cons (pv 1) (pa_cons (pv 2) (pa_cons pe_str (pa_cons (pv 3) pa_nil))))) (pa_cons (pv 6) pa_nil)))))) pss_nil)
      (pss_cons (ps_if (pt_cmpR op_ne (pe_ix (ixK_tup (K := K) rfl) (pe_meth (pv 0) T.K_Store T.m_Store_apply (ok_Store_apply T TB) (hr.mono (by decide)) T.b_Store_apply .nil passL (pa_cons (pe_call (ok_end_transaction T) (hr.mono (by decide)) (by rfl) T.g_end_transaction T.F_end_transaction.kp T.b_end_transaction .nil pass0 (pa_cons (pv 1) (pa_cons (pv 2) (pa_cons pe_str (pa_cons (pv 3) pa_nil))))) pa_nil)) pe_int (fun _ _ => rfl)) pe_str (nomark _)) (pss_one (ps_ret pe_bl)) pss_nil)
      (pss_cons (ps_set (i := 7) sc__law_end.nd rfl (Or.inl rfl) (pe_ix (ixK_tup (K := K) rfl) (pv 4) pe_int (fun _ _ => rfl)))
      (pss_cons (ps_set (i := 8) sc__law_end.nd rfl (Or.inl rfl) (pe_op (opK_catA (K := K) rfl) (pe_tup (pa_cons (pe_ix (ixK_tup (K := K) rfl) (pe_ix (ixK_tup (K := K) rfl) (pv 5) pe_int (fun _ _ => rfl)) pe_int (fun _ _ => rfl)) (pa_cons (pe_op op_sub (pe_ix (ixK_tup (K := K) rfl) (pe_ix (ixK_tup (K := K) rfl) (pv 5) pe_int (fun _ _ => rfl)) pe_int (fun _ _ => rfl)) (pe_ix (ixK_tup (K := K) rfl) (pv 7) pe_int (fun _ _ => rfl))) pa_nil))) (pe_slice (slK_tupA (K := K) rfl) (pe_ix (ixK_tup (K := K) rfl) (pv 5) pe_int (fun _ _ => rfl)) (po_some pe_int) po_none)))
      (pss_cons (ps_set (i := 9) sc__law_end.nd rfl (Or.inl rfl) (pe_op (opK_catA (K := K) rfl) (pe_op (opK_catA (K := K) rfl) (pe_slice (slK_tupA (K := K) rfl) (pv 7) po_none (po_some pe_int)) (pe_tup (pa_cons pe_str pa_nil))) (pe_slice (slK_tupA (K := K) rfl) (pv 7) (po_some pe_int) po_none)))
      (pss_one (ps_ret (pe_and (pe_cmpR (opK_eqD (K := K) rfl hr.units) (pe_ix (ixK_tup (K := K) rfl) (pe_meth (pv 0) T.K_Store T.m_Store_entry (ok_Store_entry T) (hr.mono (by decide)) T.b_Store_entry .nil pass0 (pa_cons pe_str (pa_cons (pv 1) pa_nil))) pe_int (fun _ _ => rfl)) (pv 9) (nomark _)) (pe_one (pe_cmpR (opK_eqD (K := K) rfl hr.units) (pe_ix (ixK_tup (K := K) rfl) (pe_meth (pv 0) T.K_Store T.m_Store_entry (ok_Store_entry T) (hr.mono (by decide)) T.b_Store_entry .nil pass0 (pa_cons pe_str (pa_cons pe_str pa_nil))) pe_int (fun _ _ => rfl)) (pv 8) (nomark _)))))))))))))), fun m rs hd => ?_⟩
  obtain ⟨j, x, e, n, rfl, hW, hj, hrv, hx, hst, hn, he⟩ := hd
  have hW0 := hW
  obtain ⟨nb, t, h⟩ := hW
  have ht := h.tk j hj
  rw [hx] at ht
  obtain rfl := tq_inj (Option.some.inj ht)
  obtain ⟨b, rfl⟩ := h.some_n hn
  obtain ⟨a1, a2, a3, a4, a5⟩ := h.nok n b rfl
  have hent := (h.ent rfl).1
  have htok := h.tok j hj
  have hte := h.tent hj
  have hsi := h.si
  have r0 := hsi.r0
  have hsum := h.sum_le
  have hcs := h.cost_sum hj
  have hcst : costT (t j) = (t j).sz := by unfold costT; rw [if_pos hst]
  have hsz := htok.sz
  have hoD := hsi.entO hx
  have hoN := hsi.entO hn
  have hoE : okx 8 (.tuple [.int n.nb, .int e, n.V]) = true := nq_okx (n := ⟨n.nb, e, n.size, n.used, n.life⟩)
  have hy : (⟨(t j).tb, m.rev + 1, (t j).sz, "ended", (t j).st, (t j).nd, (t j).lf⟩ : TQ).Ok := ⟨htok.sz, htok.st, .inr (.inr (.inr rfl)), htok.nd, htok.lf⟩
  have hcy : costT (⟨(t j).tb, m.rev + 1, (t j).sz, "ended", (t j).st, (t j).nd, (t j).lf⟩ : TQ) = 0 := by
    unfold costT
    rw [if_neg]
    unfold isBusy
    show ¬ (("ended" : Str) = "bound" ∨ ("ended" : Str) = "running")
    decide +kernel
  have hg : GT [.tuple [.str "node", .str "w1", .int e], .tuple [.str "task", .str (slotS j), .int (t j).tr]] [.tuple [.str "node", .str "w1", (⟨n.nb, m.rev + 1, n.size, n.used - (t j).sz, n.life⟩ : NQ).V], .tuple [.str "task", .str (slotS j), (⟨(t j).tb, m.rev + 1, (t j).sz, "ended", (t j).st, (t j).nd, (t j).lf⟩ : TQ).V]] :=
    ⟨by show 2 ≤ 3; omega, by show 2 ≤ 3; omega, by rw [List.all_cons, List.all_cons, cond_n (by omega) (by omega), cond_t hj (by omega) (by omega)]; rfl, by rw [List.all_cons, List.all_cons, put_n (by show 0 ≤ n.size ∧ n.size ≤ 1000; omega) (by show 0 ≤ n.used - (t j).sz ∧ n.used - (t j).sz ≤ 1000; omega) (by show 0 ≤ n.life ∧ n.life ≤ 1000; omega), put_t hj hy]; rfl, nd2 kNT⟩
  have hhl : heldL m.tab [.tuple [.str "node", .str "w1", .int e], .tuple [.str "task", .str (slotS j), .int (t j).tr]] [] = [decide (e = n.nv), true] := by
    show [holdB m.tab _, holdB m.tab _] ++ [] = _
    rw [hold_n hn, hold_t hx, decide_eq_true (rfl : (t j).tr = (t j).tr)]; rfl
  walk_at "pn"
  refine ws_seq (ws_asg (we_meth (at_ := SM.s) (clsS fun _ => rfl) rfl ?_))
  walk_at "px"
  refine ⟨⟨_, _, rfl⟩, fun _ z => z, fun r m2 ⟨em, er⟩ => ?_⟩
  have er := er _ _ rfl
  subst em er
  rw [hx]
  walk_at "pn"
  refine ws_seq (ws_asg (we_meth (at_ := SM.s) (clsS fun _ => rfl) rfl ?_))
  walk_at "px"
  refine ⟨⟨_, _, rfl⟩, fun _ z => z, fun r m3 ⟨em, er⟩ => ?_⟩
  have er := er _ _ rfl
  subst em er
  rw [hn]
  walk_at "pn"
  refine ws_seq (ws_asg (we_entM rfl hsi (by omega) ?_))
  dsimp only [Option.getD]
  walk_at "pn"
  walk_at "px"
  rw [eqv_okE hoD]
  walk_at "px"
  by_cases hee : e = n.nv
  · subst hee
    rw [eqv_okE hoE]
    refine ⟨fun z => (by cases z), fun _ => ?_⟩
    have hW2 := h.nt hj (u := n.used - (t j).sz) hy rfl rfl (by rw [hcst, hcy]; omega) hg
    have hlk := hW2.1.tk j hj
    have hlkn := hW2.1.n
    have hset : setT t j (⟨(t j).tb, m3.rev + 1, (t j).sz, "ended", (t j).st, (t j).nd, (t j).lf⟩ : TQ) j = ⟨(t j).tb, m3.rev + 1, (t j).sz, "ended", (t j).st, (t j).nd, (t j).lf⟩ := by unfold setT; rw [if_pos rfl]
    rw [hset] at hlk
    have hNx := NxP.of h hW2.1 hW2.2 (Int.le_refl _)
    have hsi2 := hW2.1.si
    have hoD2 := hsi2.entO hlk
    have hlkn : lkD (chg m3 [.tuple [.str "node", .str "w1", (⟨n.nb, m3.rev + 1, n.size, n.used - (t j).sz, n.life⟩ : NQ).V], .tuple [.str "task", .str (slotS j), (⟨(t j).tb, m3.rev + 1, (t j).sz, "ended", (t j).st, (t j).nd, (t j).lf⟩ : TQ).V]] []).tab [.inr "node", .inr "w1"] = some (NQ.D ⟨n.nb, m3.rev + 1, n.size, n.used - (t j).sz, n.life⟩) := hlkn
    walk_at "pn"
    refine ws_next ?_
    refine ws_seq (ws_if (wt_test ?_))
    walk_at "px"
    refine we_meth (at_ := SM.s) (clsS fun _ => rfl) rfl ?_
    refine wa_cons (we_callP ?_)
    walk_at "px"
    refine ⟨⟨_, _, _, _, _, _, _, _, _, _, _, _, _, _, _, _, _, _, _, rfl⟩, fun r hr2 => ?_⟩
    obtain rfl := hr2 _ _ _ _ _ _ _ _ _ _ _ _ _ _ _ _ _ _ _ rfl
    walk_at "px"
    refine ⟨⟨_, rfl, hg.ok8, hg.isT, hsi.ok (by omega)⟩, fun _ z => z, fun r m4 hr4 => ?_⟩
    obtain ⟨em, er⟩ := ans_all (hr4 _ _ _ rfl) (by rw [hhl, decide_eq_true rfl]; rfl) (by simp)
    have em : m4 = chg m3 [.tuple [.str "node", .str "w1", (⟨n.nb, m3.rev + 1, n.size, n.used - (t j).sz, n.life⟩ : NQ).V], .tuple [.str "task", .str (slotS j), (⟨(t j).tb, m3.rev + 1, (t j).sz, "ended", (t j).st, (t j).nd, (t j).lf⟩ : TQ).V]] [] := em
    rw [← em] at hlk hlkn hNx hsi2
    have hs4 : m4.s = m3.s := by rw [em]; rfl
    rw [← hs4]
    subst er
    have hoV := okx_in hoD2 (show (⟨(t j).tb, m3.rev + 1, (t j).sz, "ended", (t j).st, (t j).nd, (t j).lf⟩ : TQ).V ∈ _ from by simp)
    have hoW := okx_in (nq_okx (n := ⟨n.nb, m3.rev + 1, n.size, n.used - (t j).sz, n.life⟩)) (show (⟨n.nb, m3.rev + 1, n.size, n.used - (t j).sz, n.life⟩ : NQ).V ∈ _ from by simp)
    walk_at "px"
    rw [hlk]
    dsimp only [Option.getD]
    walk_at "px"
    rw [show PyData.eqv (⟨(t j).tb, m3.rev + 1, (t j).sz, "ended", (t j).st, (t j).nd, (t j).lf⟩ : TQ).V (.tuple (cutD [.int 4, .str "run", .int (t j).sz, .str (t j).state, .int (t j).st, .str (t j).nd, .int (t j).lf, .str ""] none (some 3) ++ [.str "ended"] ++ cutD [.int 4, .str "run", .int (t j).sz, .str (t j).state, .int (t j).st, .str (t j).nd, .int (t j).lf, .str ""] (some 4) none)) = true from eqv_okE hoV]
    refine ⟨fun _ => ?_, fun z => (by cases z)⟩
    walk_at "px"
    rw [hlkn]
    dsimp only [Option.getD]
    walk_at "px"
    exact ⟨congrArg (fun b => Rk.d (.bool b)) (eqv_okE hoW), hNx⟩
  · have hne : PyData.eqv (.tuple [.int n.nb, .int e, n.V]) n.D = false := by
      rw [Bool.eq_false_iff]
      intro z
      simp only [PyData.eqv, PyData.eqvAll, Bool.and_true, Bool.and_eq_true, beq_iff_eq] at z
      exact hee z.2.1
    rw [hne]
    refine ⟨fun _ => ?_, fun z => (by cases z)⟩
    refine ws_ret (we_callA ?_)
    walk_at "px"
    refine we_callP ?_
    walk_at "px"
    refine ⟨⟨_, _, _, _, _, _, _, _, _, _, _, _, _, _, _, _, _, _, _, rfl⟩, fun r hr2 => ?_⟩
    obtain rfl := hr2 _ _ _ _ _ _ _ _ _ _ _ _ _ _ _ _ _ _ _ rfl
    walk_at "px"
    refine ⟨⟨_, _, rfl, hsi, by omega, hg, by rw [hhl, decide_eq_false hee]; rfl⟩, fun r m4 ⟨er, em⟩ => ?_⟩
    subst er em
    exact ⟨rfl, hW0, NxP.refl⟩
/-- entries that an enrolment may be asked with -/
def OldOk (m : SM) (x y : PyData) : Prop := (x = .none ∧ y = .none) ∨ ∃ (N n : NQ) (B b : BQ), x = N.D ∧ y = B.D ∧ lkD m.tab kN = some n.D ∧ lkD m.tab kB = some b.D ∧ (N.nv = n.nv → N = n) ∧ (B.bv = b.bv → B = b) ∧
  (0 ≤ N.used ∧ N.used ≤ 200) ∧ (0 ≤ N.life ∧ N.life ≤ 300) ∧ (1 ≤ N.nv ∧ N.nv ≤ m.rev) ∧ (1 ≤ B.bv ∧ B.bv ≤ m.rev)
theorem gt_enr {s u l br nr : Int} (hs : 0 ≤ s ∧ s ≤ 1000) (hu : 0 ≤ u ∧ u ≤ 1000) (hl : 0 ≤ l ∧ l ≤ 1000) (hb : 0 ≤ br ∧ br ≤ 1000) (hn : 0 ≤ nr ∧ nr ≤ 1000) : GT [.tuple [.str "beat", .str "w1", .int br], .tuple [.str "node", .str "w1", .int nr]] (enrP s u l) :=
  ⟨by show 2 ≤ 3; omega, by show 2 ≤ 3; omega, by rw [List.all_cons, List.all_cons, cond_b hb.1 hb.2, cond_n hn.1 hn.2]; rfl, by unfold enrP; rw [List.all_cons, List.all_cons, put_b (b := ⟨0, 0, l, 0⟩) hl (by show (0 : Int) ≤ 0 ∧ (0 : Int) ≤ 1000; omega), put_n (n := ⟨0, 0, s, u, l⟩) hs hu hl]; rfl, nd2 kBN⟩
theorem ok__law_enroll (T : TX K mg w) (TB : LamX.TabB base mg T.cc__sorted_by_key T.pp__sorted_by_key) : FnOk P w K mg base CX0 10 T.a__law_enroll T.d__law_enroll ["store", "old", "size"] (spA (sR K T) K (fun m rs => ∃ x y s, rs = [.v (.ref m.s), .d (.tuple [x, y]), .d (.int s)] ∧ W m ∧ m.rev ≤ 200 ∧ 0 ≤ s ∧ s ≤ 100 ∧ OldOk m x y) (fun m rs r m' => r = .d (.bool true) ∧ W m' ∧ NxP m m')) := by
  refine okA T.F__law_enroll sc__law_enroll 5 rfl (fun m rs ⟨_, _, _, e, _⟩ => by rw [e]; rfl) fun cdv A outer s H E hr => ⟨_, (pss_cons (ps_set (i := 3) sc__law_enroll.nd rfl (Or.inl rfl) (pe_meth (pv 0) T.K_Store T.m_Store_entry (ok_Store_entry T) (hr.mono (by decide)) T.b_Store_entry .nil pass0 (pa_cons pe_str (pa_cons pe_str pa_nil))))
      (pss_cons (ps_set (i := 4) sc__law_enroll.nd rfl (Or.inl rfl) (pe_meth (pv 0) T.K_Store T.m_Store_entry (ok_Store_entry T) (hr.mono (by decide)) T.b_Store_entry .nil pass0 (pa_cons pe_str (pa_cons pe_str pa_nil))))
      (pss_cons (ps_set (i := 5) sc__law_enroll.nd rfl (Or.inl rfl) (pe_meth0 (pv 0) T.K_Store T.m_Store_entries (ok_Store_entries T) (hr.mono (by decide)) T.b_Store_entries .nil pass0))
      (pss_cons (ps_if (pt_cmpR (opK_neD (K := K) rfl hr.units) (pv 1) (pe_tup (pa_cons (pv 3) (pa_cons (pv 4) pa_nil))) (nomark _)) (pss_one (ps_ret (pe_call (ok__law_refused T TB) (hr.mono (by decide)) (by rfl) T.g__law_refused T.F__law_refused.kp T.b__law_refused .nil pass0 (pa_cons (pv 0) (pa_cons (pe_call (ok_enroll_transaction T) (hr.mono (by decide)) (by rfl) T.g_enroll_transaction T.F_enroll_transaction.kp T.b_enroll_transaction .nil pass0 (pa_cons pe_str (pa_cons (pv 2) (pa_cons pe_str (pa_cons (pe_ix (ixK_tup (K := K) rfl) (pv 1) pe_int (fun _ _ => rfl)) (pa_cons (pe_ix (ixK_tup (K := K) rfl) (pv 1) pe_int (fun _ _ => rfl)) pa_nil)))))) (pa_cons (pv 5) pa_nil)))))) pss_nil)
      (pss_cons (ps_if (pt_cmpR op_ne (pe_ix (ixK_tup (K := K) rfl) (pe_meth (pv 0) T.K_Store T.m_Store_apply (ok_Store_apply T TB) (hr.mono (by decide)) T.b_Store_apply .nil passL (pa_cons (pe_call (ok_enroll_transaction T) (hr.mono (by decide)) (by rfl) T.g_enroll_transaction T.F_enroll_transaction.kp T.b_enroll_transaction .nil pass0 (pa_cons pe_str (pa_cons (pv 2) (pa_cons pe_str (pa_cons (pv 3) (pa_cons (pv 4) pa_nil)))))) pa_nil)) pe_int (fun _ _ => rfl)) pe_str (nomark _)) (pss_one (ps_ret pe_bl)) pss_nil)
      (pss_cons (ps_set (i := 6) sc__law_enroll.nd rfl (Or.inl rfl) pe_int)
      (pss_cons (ps_set (i := 7) sc__law_enroll.nd rfl (Or.inl rfl) pe_int)
      (pss_cons (ps_if (pt_cmpR op_notN1 (pv 3) pe_non (nomark _)) (pss_cons (ps_set (i := 6) sc__law_enroll.nd rfl (Or.inl rfl) (pe_op op_add pe_int (pe_ix (ixK_tup (K := K) rfl) (pe_ix (ixK_tup (K := K) rfl) (pv 3) pe_int (fun _ _ => rfl)) pe_int (fun _ _ => rfl))))
        (pss_one (ps_set (i := 7) sc__law_enroll.nd rfl (Or.inl rfl) (pe_ix (ixK_tup (K := K) rfl) (pe_ix (ixK_tup (K := K) rfl) (pv 3) pe_int (fun _ _ => rfl)) pe_int (fun _ _ => rfl))))) pss_nil)
      (pss_one (ps_ret (pe_and (pe_cmpR (opK_eqD (K := K) rfl hr.units) (pe_ix (ixK_tup (K := K) rfl) (pe_meth (pv 0) T.K_Store T.m_Store_entry (ok_Store_entry T) (hr.mono (by decide)) T.b_Store_entry .nil pass0 (pa_cons pe_str (pa_cons pe_str pa_nil))) pe_int (fun _ _ => rfl)) (pe_tup (pa_cons (pv 2) (pa_cons (pv 7) (pa_cons (pv 6) (pa_cons pe_int (pa_cons pe_str pa_nil)))))) (nomark _)) (pe_one (pe_cmpR (opK_eqD (K := K) rfl hr.units) (pe_ix (ixK_tup (K := K) rfl) (pe_meth (pv 0) T.K_Store T.m_Store_entry (ok_Store_entry T) (hr.mono (by decide)) T.b_Store_entry .nil pass0 (pa_cons pe_str (pa_cons pe_str pa_nil))) pe_int (fun _ _ => rfl)) (pe_tup (pa_cons (pv 6) (pa_cons pe_int pa_nil))) (nomark _)))))))))))))), fun m rs hd => ?_⟩
  obtain ⟨x, y, sz, rfl, hW, hrv, s0, s1, hO⟩ := hd
  have hW0 := hW
  obtain ⟨nb, t, h⟩ := hW
  have hsi := h.si
  have r0 := hsi.r0
  have hsum := h.sum_le
  have hn := h.n
  have hb := h.b
  walk_at "pn"
  refine ws_seq (ws_asg (we_meth (at_ := SM.s) (clsS fun _ => rfl) rfl ?_))
  walk_at "px"
  refine ⟨⟨_, _, rfl⟩, fun _ z => z, fun r m2 ⟨em, er⟩ => ?_⟩
  have er := er _ _ rfl
  subst em er
  rw [hn]
  walk_at "pn"
  refine ws_seq (ws_asg (we_meth (at_ := SM.s) (clsS fun _ => rfl) rfl ?_))
  walk_at "px"
  refine ⟨⟨_, _, rfl⟩, fun _ z => z, fun r m3 ⟨em, er⟩ => ?_⟩
  have er := er _ _ rfl
  subst em er
  rw [hb]
  walk_at "pn"
  refine ws_seq (ws_asg (we_entM rfl hsi (by omega) ?_))
  cases nb with
  | none =>
    obtain ⟨rfl, rfl⟩ : x = .none ∧ y = .none := by
      rcases hO with h | ⟨N, n, B, b, _, _, h1, _⟩
      · exact h
      · rw [hn] at h1; cases h1
    dsimp only [Option.getD, Option.map]
    have hN0 : lkD m3.tab kN = none := hn
    have hB0 : lkD m3.tab kB = none := hb
    have hs0 : sumT t = 0 := by
      have := h.no rfl
      unfold sumT costT
      rw [if_neg (this 0 (by omega)), if_neg (this 1 (by omega)), if_neg (this 2 (by omega))]
      rfl
    have hg := gt_enr (s := sz) (u := 0) (l := 1) (br := 0) (nr := 0) (by omega) (by omega) (by omega) (by omega) (by omega)
    have hhl : heldL m3.tab [.tuple [.str "beat", .str "w1", .int 0], .tuple [.str "node", .str "w1", .int 0]] [] = [true, true] := by
      show [holdB m3.tab _, holdB m3.tab _] ++ [] = _
      rw [hold_n0 hN0, hold_b0 hB0]; rfl
    obtain ⟨x', y', hW2, hNx⟩ := h.en (s := sz) (u := 0) (l := 1) (by omega) (by omega) hs0.symm (fun _ _ z => by cases z) hg
    have hnone : okx 8 (.tuple [.none, .none]) = true := rfl
    walk_at "pn"
    walk_at "px"
    refine we_meth (at_ := SM.s) (clsS fun _ => rfl) rfl ?_
    refine wa_cons (we_callP ?_)
    walk_at "px"
    refine ⟨⟨_, _, _, _, _, rfl, .inl ⟨rfl, rfl⟩⟩, fun r hr2 => ?_⟩
    obtain rfl := (hr2 _ _ _).1 rfl
    walk_at "px"
    refine ⟨⟨_, rfl, hg.ok8, hg.isT, hsi.ok (by omega)⟩, fun _ z => z, fun r m4 hr4 => ?_⟩
    obtain ⟨em, er⟩ := ans_all (hr4 _ _ _ rfl) (by rw [hhl]; rfl) (by simp)
    have em : m4 = chg m3 (enrP sz 0 1) [] := em
    rw [← em] at hW2 hNx
    have hNP := NxP.of h hW2 hNx (by rw [em]; exact Int.le_refl _)
    have hs4 : m4.s = m3.s := by rw [em]; rfl
    have hlN : lkD m4.tab [.inr "node", .inr "w1"] = some (NQ.D ⟨x', m3.rev + 1, sz, 0, 1⟩) := hW2.n
    have hlB : lkD m4.tab [.inr "beat", .inr "w1"] = some (BQ.D ⟨y', m3.rev + 1, 1, 0⟩) := hW2.b
    rw [← hs4]
    subst er
    have hoV := okx_in (nq_okx (n := ⟨x', m3.rev + 1, sz, 0, 1⟩)) (show (⟨x', m3.rev + 1, sz, 0, 1⟩ : NQ).V ∈ _ from by simp)
    have hoW : okx 8 (.tuple [.int (1), .int 0]) = true := rfl
    walk_at "px"
    rw [hlN]
    dsimp only [Option.getD]
    walk_at "px"
    rw [eqv_okE hoV]
    refine ⟨fun _ => ?_, fun z => (by cases z)⟩
    walk_at "px"
    rw [hlB]
    dsimp only [Option.getD]
    walk_at "px"
    exact hNP
  | some z =>
    obtain ⟨n, b⟩ := z
    obtain ⟨a1, a2, a3, a4, a5⟩ := h.nok n b rfl
    have hent := h.ent rfl
    have hn' : lkD m3.tab kN = some n.D := hn
    have hb' : lkD m3.tab kB = some b.D := hb
    dsimp only [Option.getD, Option.map]
    have hok2 : okx 9 (.tuple [n.D, b.D]) = true := okx_lt8 (by show 2 ≤ 1000; omega) (by
      show (okx 8 n.D && (okx 8 b.D && true)) = true
      rw [nq_okx, bq_okx]; rfl)
    rcases hO with ⟨rfl, rfl⟩ | ⟨N, n1, B, b1, rfl, rfl, h1, h2, h3, h4, h5, h6, h7, h8⟩
    · have hnone : okx 8 (.tuple [.none, .none]) = true := rfl
      have hne : PyData.eqv (.tuple [.none, .none]) (.tuple [n.D, b.D]) = false := by simp [PyData.eqv, PyData.eqvAll]
      have hg := gt_enr (s := sz) (u := 0) (l := 1) (br := 0) (nr := 0) (by omega) (by omega) (by omega) (by omega) (by omega)
      have hff : (heldL m3.tab [.tuple [.str "beat", .str "w1", .int 0], .tuple [.str "node", .str "w1", .int 0]] []).all id = false := by
        show ([holdB m3.tab _, holdB m3.tab _] ++ []).all id = false
        rw [hold_n hn', hold_b hb', decide_eq_false (by omega : ¬ (0 = n.nv))]
        simp
      walk_at "pn"
      walk_at "px"
      refine we_callA ?_
      walk_at "px"
      refine we_callP ?_
      walk_at "px"
      refine ⟨⟨_, _, _, _, _, rfl, .inl ⟨rfl, rfl⟩⟩, fun r hr2 => ?_⟩
      obtain rfl := (hr2 _ _ _).1 rfl
      walk_at "px"
      refine ⟨⟨_, _, rfl, hsi, by omega, hg, hff⟩, fun r m4 ⟨er, em⟩ => ?_⟩
      subst er em
      exact ⟨rfl, hW0, NxP.refl⟩
    · obtain rfl : n = n1 := nq_inj (Option.some.inj (hn'.symm.trans h1))
      obtain rfl : b = b1 := bq_inj (Option.some.inj (hb'.symm.trans h2))
      have hokO : okx 9 (.tuple [N.D, B.D]) = true := okx_lt8 (by show 2 ≤ 1000; omega) (by
        show (okx 8 N.D && (okx 8 B.D && true)) = true
        rw [nq_okx, bq_okx]; rfl)
      walk_at "pn"
      walk_at "px"
      by_cases hNB : N = n ∧ B = b
      · obtain ⟨rfl, rfl⟩ := hNB
        rw [show PyData.eqv (.tuple [N.D, B.D]) (.tuple ((fun x => N.D :: x) ((fun x => B.D :: x) []))) = true from eqv_okE hokO]
        refine ⟨fun z => (by cases z), fun _ => ?_⟩
        have hg := gt_enr (s := sz) (u := N.used) (l := N.life + 1) (br := B.bv) (nr := N.nv) (by omega) (by omega) (by omega) (by omega) (by omega)
        have hhl : heldL m3.tab [.tuple [.str "beat", .str "w1", .int B.bv], .tuple [.str "node", .str "w1", .int N.nv]] [] = [true, true] := by
          show [holdB m3.tab _, holdB m3.tab _] ++ [] = _
          rw [hold_n hn', hold_b hb', decide_eq_true (rfl : N.nv = N.nv), decide_eq_true (rfl : B.bv = B.bv)]; rfl
        obtain ⟨x', y', hW2, hNx⟩ := h.en (s := sz) (u := N.used) (l := N.life + 1) (by omega) (by omega) a5 (fun _ _ z => by cases z; omega) hg
        refine ws_next ?_
        refine ws_seq (ws_if (wt_test ?_))
        walk_at "px"
        refine we_meth (at_ := SM.s) (clsS fun _ => rfl) rfl ?_
        refine wa_cons (we_callP ?_)
        walk_at "px"
        refine ⟨⟨_, _, _, _, _, rfl, .inr ⟨_, _, _, _, _, _, _, _, _, _, rfl, rfl⟩⟩, fun r hr2 => ?_⟩
        obtain rfl := (hr2 _ _ _).2 _ _ _ _ _ _ _ _ _ _ rfl
        walk_at "px"
        refine ⟨⟨_, rfl, hg.ok8, hg.isT, hsi.ok (by omega)⟩, fun _ z => z, fun r m4 hr4 => ?_⟩
        obtain ⟨em, er⟩ := ans_all (hr4 _ _ _ rfl) (by rw [hhl]; rfl) (by simp)
        have em : m4 = chg m3 (enrP sz N.used (N.life + 1)) [] := em
        rw [← em] at hW2 hNx
        have hNP := NxP.of h hW2 hNx (by rw [em]; exact Int.le_refl _)
        have hs4 : m4.s = m3.s := by rw [em]; rfl
        have hlN : lkD m4.tab [.inr "node", .inr "w1"] = some (NQ.D ⟨x', m3.rev + 1, sz, N.used, (N.life + 1)⟩) := hW2.n
        have hlB : lkD m4.tab [.inr "beat", .inr "w1"] = some (BQ.D ⟨y', m3.rev + 1, (N.life + 1), 0⟩) := hW2.b
        rw [← hs4]
        subst er
        have hoV := okx_in (nq_okx (n := ⟨x', m3.rev + 1, sz, N.used, (N.life + 1)⟩)) (show (⟨x', m3.rev + 1, sz, N.used, (N.life + 1)⟩ : NQ).V ∈ _ from by simp)
        have hoW : okx 8 (.tuple [.int ((N.life + 1)), .int 0]) = true := rfl
        walk_at "px"
        rw [Int.add_comm 1 N.life, hlN]
        dsimp only [Option.getD]
        walk_at "px"
        rw [eqv_okE hoV]
        refine ⟨fun _ => ?_, fun z => (by cases z)⟩
        walk_at "px"
        rw [hlB]
        dsimp only [Option.getD]
        walk_at "px"
        exact ⟨congrArg (fun b => Rk.d (.bool b)) (eqv_okE hoW), hNP⟩

      · have hne : PyData.eqv (.tuple [N.D, B.D]) (.tuple [n.D, b.D]) = false := by
          rw [Bool.eq_false_iff]
          intro z
          simp only [PyData.eqv, PyData.eqvAll, Bool.and_true, Bool.and_eq_true, beq_iff_eq] at z
          exact hNB ⟨h3 z.1.2.1, h4 z.2.2.1⟩
        rw [show PyData.eqv (.tuple [N.D, B.D]) (.tuple ((fun x => n.D :: x) ((fun x => b.D :: x) []))) = false from hne]
        refine ⟨fun _ => ?_, fun z => (by cases z)⟩
        have hg := gt_enr (s := sz) (u := N.used) (l := N.life + 1) (br := B.bv) (nr := N.nv) (by omega) (by omega) (by omega) (by omega) (by omega)
        have hff : (heldL m3.tab [.tuple [.str "beat", .str "w1", .int B.bv], .tuple [.str "node", .str "w1", .int N.nv]] []).all id = false := by
          show ([holdB m3.tab _, holdB m3.tab _] ++ []).all id = false
          rw [hold_n hn', hold_b hb']
          rw [Bool.eq_false_iff]
          intro z
          simp at z
          exact hNB ⟨h3 z.2, h4 z.1⟩
        refine ws_ret ?_
        refine we_callA ?_
        walk_at "px"
        refine we_callP ?_
        walk_at "px"
        refine ⟨⟨_, _, _, _, _, rfl, .inr ⟨_, _, _, _, _, _, _, _, _, _, rfl, rfl⟩⟩, fun r hr2 => ?_⟩
        obtain rfl := (hr2 _ _ _).2 _ _ _ _ _ _ _ _ _ _ rfl
        walk_at "px"
        refine ⟨⟨_, _, rfl, hsi, by omega, hg, hff⟩, fun r m4 ⟨er, em⟩ => ?_⟩
        subst er em
        exact ⟨rfl, hW0, NxP.refl⟩
end
/-! # good and deed -/
def pS (t : Nat → TQ) : Nat → Int
  | 0 => 0
  | i + 1 => pS t i + costT (t i)
theorem pS3 {t : Nat → TQ} : pS t 3 = sumT t := by
  show 0 + costT (t 0) + costT (t 1) + costT (t 2) = _
  unfold sumT
  omega
theorem num_lg : ∀ i : Nat, i < 3 → (0 + (i : Int)).natAbs.log2 < 1920 := by decide +kernel
theorem num_ln : ∀ i : Nat, i < 3 → (Str.ofString (toString (0 + (i : Int)))).length ≤ 1 := by decide +kernel
theorem OldOk.step {m m' : SM} {x y : PyData} (h : OldOk m x y) (q : NxP m m') : OldOk m' x y := by
  rcases h with h | ⟨N, n, B, b, rfl, rfl, h1, h2, h3, h4, h5, h6, h7, h8⟩
  · exact .inl h
  · obtain ⟨n', b', e1, e2, e3, e4, e5⟩ := q.n n b h1 h2
    have := q.rv
    refine .inr ⟨N, n', B, b', rfl, rfl, e1, e2, fun z => ?_, fun z => ?_, h5, h6, by omega, by omega⟩
    · rcases e3 with e3 | e3
      · rw [e3] at z ⊢; exact h3 z
      · exfalso; omega
    · rcases e4 with e4 | e4
      · rw [e4] at z ⊢; exact h4 z
      · exfalso; omega
theorem OldOk.now {m : SM} {nb : Option (NQ × BQ)} {t : Nat → TQ} (h : W78 m nb t) (hr : m.rev ≤ 200) : OldOk m ((nb.map fun x => x.1.D).getD .none) ((nb.map fun x => x.2.D).getD .none) := by
  have hs := h.sum_le
  cases nb with
  | none => exact .inl ⟨rfl, rfl⟩
  | some z =>
    obtain ⟨n, b⟩ := z
    obtain ⟨a1, a2, a3, a4, a5⟩ := h.nok n b rfl
    have he := h.ent rfl
    exact .inr ⟨n, n, b, b, rfl, rfl, h.n, h.b, fun _ => rfl, fun _ => rfl, by omega, by omega, he.1, he.2⟩
theorem busy_any {t : TQ} (h : t.Ok) : ([PyData.str "bound", .str "running"].any fun z => PyData.eqv z (.str t.state)) = decide (isBusy t) := by
  have hb : isBusy t ↔ t.state = "bound" ∨ t.state = "running" := Iff.rfl
  rw [show decide (isBusy t) = decide (t.state = "bound" ∨ t.state = "running") from decide_eq_decide.mpr hb]
  rcases h.s with e | e | e | e <;> (rw [e]; decide +kernel)
theorem tq_sok {t : TQ} (h : t.Ok) : okx 8 (.str t.state) = true := by
  rcases h.s with e | e | e | e <;> (rw [e]; exact okx_mono (Nat.zero_le 8) (by decide +kernel))
section
variable {P : Program} {w : World} {K : PySem.W.Frag} {mg : Str → Option Value} {base : Heap}
theorem ok__law_good (T : TX K mg w) : FnOk P w K mg base CX0 2 T.a__law_good T.d__law_good ["store"] (spA (sR K T) K (fun m rs => rs = [.v (.ref m.s)] ∧ W m ∧ m.rev ≤ 300) (fun m rs r m' => r = .d (.bool true) ∧ m' = m)) := by
  refine okA T.F__law_good sc__law_good 4 rfl (fun m rs ⟨e, _⟩ => by rw [e]; rfl) fun cdv A outer s H E hr => ⟨_, (pss_cons (ps_set (i := 1) sc__law_good.nd rfl (Or.inl rfl) (pe_meth (pv 0) T.K_Store T.m_Store_entry (ok_Store_entry T) (hr.mono (by decide)) T.b_Store_entry .nil pass0 (pa_cons pe_str (pa_cons pe_str pa_nil))))
      (pss_cons (ps_if (pt_cmpR op_isN1 (pv 1) pe_non (nomark _)) (pss_one (ps_ret (pe_cmpR op_isN1 (pe_meth (pv 0) T.K_Store T.m_Store_entry (ok_Store_entry T) (hr.mono (by decide)) T.b_Store_entry .nil pass0 (pa_cons pe_str (pa_cons pe_str pa_nil))) pe_non (nomark _)))) pss_nil)
      (pss_cons (ps_set (i := 2) sc__law_good.nd rfl (Or.inl rfl) pe_int)
      (pss_cons (ps_for PassesOwn.never rfl (pi_range1 (by rfl) T.n_range (pa_cons pe_int pa_nil)) (pg_name (i := 3) sc__law_good.nd rfl (Or.inl rfl))
        (pss_cons (ps_set (i := 4) sc__law_good.nd rfl (Or.inl rfl) (pe_ix (ixK_tup (K := K) rfl) (pe_meth (pv 0) T.K_Store T.m_Store_entry (ok_Store_entry T) (hr.mono (by decide)) T.b_Store_entry .nil pass0 (pa_cons pe_str (pa_cons (pe_op op_addS pe_str (pe_callTy call_strN (by rfl) T.n_str (by decide +kernel) (pa_cons (pv 3) pa_nil))) pa_nil))) pe_int (fun _ _ => rfl)))
        (pss_one (ps_if (pt_cmpR (opK_inD (K := K) rfl (hu65 hr)) (pe_ix (ixK_tup (K := K) rfl) (pv 4) pe_int (fun _ _ => rfl)) (pe_lst (pa_cons pe_str (pa_cons pe_str pa_nil))) rfl) (pss_one (ps_aug (i := 2) sc__law_good.nd rfl (Or.inl rfl) (pe_ix (ixK_tup (K := K) rfl) (pv 4) pe_int (fun _ _ => rfl)) ip_add)) pss_nil))))
      (pss_one (ps_ret (pe_cmpR op_eq (pv 2) (pe_ix (ixK_tup (K := K) rfl) (pe_ix (ixK_tup (K := K) rfl) (pv 1) pe_int (fun _ _ => rfl)) pe_int (fun _ _ => rfl)) (nomark _)))))))), fun m rs hd => ?_⟩
  obtain ⟨rfl, ⟨nb, t, h⟩, hrv⟩ := hd
  have hn := h.n
  have hb := h.b
  walk_at "pn"
  refine ws_seq (ws_asg (we_meth (at_ := SM.s) (clsS fun _ => rfl) rfl ?_))
  walk_at "px"
  refine ⟨⟨_, _, rfl⟩, fun _ z => z, fun r m2 ⟨em, er⟩ => ?_⟩
  have er := er _ _ rfl
  subst em er
  rw [hn]
  cases nb with
  | none =>
    dsimp only [Option.getD, Option.map]
    have hB0 : lkD m2.tab [.inr "beat", .inr "w1"] = none := hb
    walk_at "px"
    rw [hB0]
    dsimp only [Option.getD]
    walk_at "px"
    exact rfl
  | some z =>
    obtain ⟨n, b⟩ := z
    obtain ⟨a1, a2, a3, a4, a5⟩ := h.nok n b rfl
    dsimp only [Option.getD, Option.map]
    walk_at "pn"
    walk_at "px"
    refine ws_for ?_
    walk_at "px"
    refine ⟨Int, fun u => [.v (.ref m2.s), .d n.D, .d (.int u), .u, .u], fun _ => m2, fun i u => u = pS t i, nxt 0 (by walk_at "wk") rfl rfl, fun i y u hx hI => ?_, fun u hI => ?_⟩
    · obtain ⟨hi, rfl⟩ := nums_at hx
      clear hx
      have hi : i < 3 := hi
      have ht := h.tk i hi
      have hI : u = pS t i := hI
      subst hI
      walk_at "pn"
      refine wg_name ?_
      walk_at "pn"
      walk_at "px"
      refine cbP_strI (num_lg i hi) (opP_addS (by have := num_ln i hi; show 4 + _ ≤ _; exact sz (by omega)) ?_)
      walk_at "px"
      show OpP _ K E _ _ m2 (rIxT K) (Rk.d ((lkD m2.tab [.inr "task", .inr (slotS i)]).getD .none)) _ _
      rw [ht]
      dsimp only [Option.getD]
      have htok := h.tok i hi
      walk_at "px"
      refine opP_inD (d := .str (t i).state) (ds := [.str "bound", .str "running"]) rfl rfl (okx_sh (tq_sok htok) (by decide)) (by decide +kernel) ?_
      rw [busy_any htok]
      have hp : pS t (i + 1) = pS t i + costT (t i) := rfl
      by_cases hbz : isBusy (t i)
      · rw [decide_eq_true hbz]
        refine ⟨true, rfl, fun _ => ?_, fun z => (by cases z)⟩
        refine ws_augI (a := pS t i) rfl ?_
        walk_at "px"
        refine nxt (pS t i + (t i).sz) (by walk_at "wk") rfl ?_
        show _ = pS t (i + 1)
        rw [hp]; unfold costT; rw [if_pos hbz]
      · rw [decide_eq_false hbz]
        refine ⟨false, rfl, fun z => (by cases z), fun _ => ?_⟩
        walk_at "px"
        refine nxt (pS t i) (by walk_at "wk") rfl ?_
        show _ = pS t (i + 1)
        rw [hp]; unfold costT; rw [if_neg hbz, Int.add_zero]
    · have hI : u = pS t 3 := hI
      rw [pS3, ← a5] at hI
      subst hI
      walk_at "pn"
      walk_at "px"
      exact ⟨congrArg (fun b => Rk.d (.bool b)) (decide_eq_true rfl), rfl⟩
theorem ok__law_deed (T : TX K mg w) (TB : LamX.TabB base mg T.cc__sorted_by_key T.pp__sorted_by_key) : FnOk P w K mg base CX0 11 T.a__law_deed T.d__law_deed ["store", "first", "digits", "number"] (spA (sR K T) K (fun m rs => ∃ x y d0 d1 d2 d3 c, rs = [.v (.ref m.s), .d (.tuple [x, y]), .l [.int d0, .int d1, .int d2, .int d3], .d (.int c)] ∧ W m ∧ m.rev ≤ 200 ∧ OldOk m x y ∧ (0 ≤ d0 ∧ d0 < 8) ∧ (0 ≤ d1 ∧ d1 < 3) ∧ (0 ≤ d2 ∧ d2 < 4) ∧ (0 ≤ d3 ∧ d3 < 50) ∧ 0 ≤ c ∧ c ≤ 500) (fun m rs r m' => r = .d (.bool true) ∧ W m' ∧ NxP m m')) := by
  refine okA T.F__law_deed sc__law_deed 5 rfl (fun m rs ⟨_, _, _, _, _, _, _, e, _⟩ => by rw [e]; rfl) fun cdv A outer s H E hr => ⟨_, (pss_cons (ps_set (i := 4) sc__law_deed.nd rfl (Or.inl rfl) (pe_op op_addS pe_str (pe_callTy call_strN (by rfl) T.n_str (by decide +kernel) (pa_cons (pe_ix (ixK_list (K := K) rfl) (pv 2) pe_int (fun _ _ => rfl)) pa_nil))))
      (pss_cons (ps_set (i := 5) sc__law_deed.nd rfl (Or.inl rfl) (pe_meth (pv 0) T.K_Store T.m_Store_entry (ok_Store_entry T) (hr.mono (by decide)) T.b_Store_entry .nil pass0 (pa_cons pe_str (pa_cons (pv 4) pa_nil))))
      (pss_cons (ps_set (i := 6) sc__law_deed.nd rfl (Or.inl rfl) (pe_meth (pv 0) T.K_Store T.m_Store_entry (ok_Store_entry T) (hr.mono (by decide)) T.b_Store_entry .nil pass0 (pa_cons pe_str (pa_cons pe_str pa_nil))))
      (pss_cons (ps_set (i := 7) sc__law_deed.nd rfl (Or.inl rfl) (pe_meth (pv 0) T.K_Store T.m_Store_entry (ok_Store_entry T) (hr.mono (by decide)) T.b_Store_entry .nil pass0 (pa_cons pe_str (pa_cons pe_str pa_nil))))
      (pss_cons (ps_set (i := 8) sc__law_deed.nd rfl (Or.inl rfl) (pe_cmpR op_eq (pe_ix (ixK_list (K := K) rfl) (pv 2) pe_int (fun _ _ => rfl)) pe_int (nomark _)))
      (pss_cons (ps_if (pt_cmpR op_eq (pe_ix (ixK_list (K := K) rfl) (pv 2) pe_int (fun _ _ => rfl)) pe_int (nomark _)) (pss_cons (ps_expr (pe_call (ok__law_bind T TB) (hr.mono (by decide)) (by rfl) T.g__law_bind T.F__law_bind.kp T.b__law_bind .nil pass0 (pa_cons (pv 0) (pa_cons (pv 4) pa_nil))))
        (pss_one (ps_ret pe_bl))) pss_nil)
      (pss_cons (ps_if (pt_cmpR op_eq (pe_ix (ixK_list (K := K) rfl) (pv 2) pe_int (fun _ _ => rfl)) pe_int (nomark _)) (pss_cons (ps_if (ptK_truth (K := K) rfl (pv 8) (by intro _; rfl)) (pss_one (ps_ret (pe_call (ok__law_enroll T TB) (hr.mono (by decide)) (by rfl) T.g__law_enroll T.F__law_enroll.kp T.b__law_enroll .nil pass0 (pa_cons (pv 0) (pa_cons (pe_tup (pa_cons (pe_ix (ixK_tup (K := K) rfl) (pv 1) pe_int (fun _ _ => rfl)) (pa_cons (pe_ix (ixK_tup (K := K) rfl) (pv 1) pe_int (fun _ _ => rfl)) pa_nil))) (pa_cons (pe_op op_add pe_int (pe_ix (ixK_list (K := K) rfl) (pv 2) pe_int (fun _ _ => rfl))) pa_nil)))))) pss_nil)
        (pss_one (ps_ret (pe_call (ok__law_enroll T TB) (hr.mono (by decide)) (by rfl) T.g__law_enroll T.F__law_enroll.kp T.b__law_enroll .nil pass0 (pa_cons (pv 0) (pa_cons (pe_tup (pa_cons (pv 6) (pa_cons (pv 7) pa_nil))) (pa_cons (pe_op op_add pe_int (pe_ix (ixK_list (K := K) rfl) (pv 2) pe_int (fun _ _ => rfl))) pa_nil))))))) pss_nil)
      (pss_cons (ps_if (PW.pt (pw_and (pt_cmpR op_lt (pe_ix (ixK_list (K := K) rfl) (pv 2) pe_int (fun _ _ => rfl)) pe_int (nomark _)) (pw_and1 (pt_cmpR op_notN1 (pv 7) pe_non (nomark _))))) (pss_one (ps_ret (pe_call (ok__law_beat T TB) (hr.mono (by decide)) (by rfl) T.g__law_beat T.F__law_beat.kp T.b__law_beat .nil pass0 (pa_cons (pv 0) (pa_cons (pe_op op_sub (pe_ix (ixK_tup (K := K) rfl) (pv 7) pe_int (fun _ _ => rfl)) (pe_callTy call_intN (by rfl) T.n_int (by decide +kernel) (pa_cons (pv 8) pa_nil))) (pa_cons (pv 3) pa_nil)))))) pss_nil)
      (pss_cons (ps_if (PW.pt (pw_and (pt_cmpR op_lt (pe_ix (ixK_list (K := K) rfl) (pv 2) pe_int (fun _ _ => rfl)) pe_int (nomark _)) (pw_and1 (pt_cmpR op_eq (pe_ix (ixK_tup (K := K) rfl) (pe_ix (ixK_tup (K := K) rfl) (pv 5) pe_int (fun _ _ => rfl)) pe_int (fun _ _ => rfl)) pe_str (nomark _))))) (pss_cons (ps_if (ptK_truth (K := K) rfl (pv 8) (by intro _; rfl)) (pss_one (ps_set (i := 5) sc__law_deed.nd rfl (Or.inl rfl) (pe_tup (pa_cons (pe_ix (ixK_tup (K := K) rfl) (pv 5) pe_int (fun _ _ => rfl)) (pa_cons (pe_op op_sub (pe_ix (ixK_tup (K := K) rfl) (pv 5) pe_int (fun _ _ => rfl)) pe_int) (pa_cons (pe_ix (ixK_tup (K := K) rfl) (pv 5) pe_int (fun _ _ => rfl)) pa_nil)))))) pss_nil)
        (pss_one (ps_ret (pe_call (ok__law_start T TB) (hr.mono (by decide)) (by rfl) T.g__law_start T.F__law_start.kp T.b__law_start .nil pass0 (pa_cons (pv 0) (pa_cons (pv 4) (pa_cons (pv 5) pa_nil))))))) pss_nil)
      (pss_cons (ps_if (PW.pt (pw_and (pt_cmpR op_ge (pe_ix (ixK_list (K := K) rfl) (pv 2) pe_int (fun _ _ => rfl)) pe_int (nomark _)) (pw_and1 (pt_cmpR (opK_inD (K := K) rfl (hu65 hr)) (pe_ix (ixK_tup (K := K) rfl) (pe_ix (ixK_tup (K := K) rfl) (pv 5) pe_int (fun _ _ => rfl)) pe_int (fun _ _ => rfl)) (pe_lst (pa_cons pe_str (pa_cons pe_str pa_nil))) rfl)))) (pss_cons (ps_if (ptK_truth (K := K) rfl (pv 8) (by intro _; rfl)) (pss_one (ps_set (i := 6) sc__law_deed.nd rfl (Or.inl rfl) (pe_tup (pa_cons (pe_ix (ixK_tup (K := K) rfl) (pv 6) pe_int (fun _ _ => rfl)) (pa_cons (pe_op op_sub (pe_ix (ixK_tup (K := K) rfl) (pv 6) pe_int (fun _ _ => rfl)) pe_int) (pa_cons (pe_ix (ixK_tup (K := K) rfl) (pv 6) pe_int (fun _ _ => rfl)) pa_nil)))))) pss_nil)
        (pss_one (ps_ret (pe_call (ok__law_end T TB) (hr.mono (by decide)) (by rfl) T.g__law_end T.F__law_end.kp T.b__law_end .nil pass0 (pa_cons (pv 0) (pa_cons (pv 4) (pa_cons (pv 5) (pa_cons (pv 6) pa_nil)))))))) pss_nil)
      (pss_one (ps_ret pe_bl)))))))))))), fun m rs hd => ?_⟩
  obtain ⟨x, y, d0, d1, d2, d3, c, rfl, hW, hrv, hO, b0, b1, b2, b3, c0, c1⟩ := hd
  have hW0 := hW
  obtain ⟨nb, t, h⟩ := hW
  obtain ⟨j, hj, rfl⟩ : ∃ j : Nat, j < 3 ∧ d1 = 0 + (j : Int) := ⟨d1.toNat, by omega, by omega⟩
  have ht := h.tk j hj
  have hn := h.n
  have hb := h.b
  have htok := h.tok j hj
  have hON := OldOk.now h hrv
  walk_at "pn"
  walk_at "px"
  refine cbP_strI (num_lg j hj) (opP_addS (by have := num_ln j hj; show 4 + _ ≤ _; exact sz (by omega)) ?_)
  walk_at "pn"
  refine ws_seq (ws_asg (we_meth (at_ := SM.s) (clsS fun _ => rfl) rfl ?_))
  walk_at "px"
  refine ⟨⟨_, _, rfl⟩, fun _ z => z, fun r m2 ⟨em, er⟩ => ?_⟩
  have er := er _ _ rfl
  subst em er
  show WS _ K E _ [.v (.ref m2.s), .d (.tuple [x, y]), .l [.int d0, .int (0 + (j : Int)), .int d2, .int d3], .d (.int c), .d (.str (slotS j)), .d ((lkD m2.tab (kT j)).getD .none), .u, .u, .u] m2 _ _ _ _ _
  rw [ht]
  dsimp only [Option.getD]
  walk_at "pn"
  refine ws_seq (ws_asg (we_meth (at_ := SM.s) (clsS fun _ => rfl) rfl ?_))
  walk_at "px"
  refine ⟨⟨_, _, rfl⟩, fun _ z => z, fun r m3 ⟨em, er⟩ => ?_⟩
  have er := er _ _ rfl
  subst em er
  rw [hn]
  walk_at "pn"
  refine ws_seq (ws_asg (we_meth (at_ := SM.s) (clsS fun _ => rfl) rfl ?_))
  walk_at "px"
  refine ⟨⟨_, _, rfl⟩, fun _ z => z, fun r m4 ⟨em, er⟩ => ?_⟩
  have er := er _ _ rfl
  subst em er
  rw [hb]
  walk_at "pn"
  refine ws_mid [.v (.ref m4.s), .d (.tuple [x, y]), .l [.int d0, .int (0 + (j : Int)), .int d2, .int d3], .d (.int c), .d (.str (slotS j)), .d (t j).D, .d ((nb.map fun x => x.1.D).getD .none), .d ((nb.map fun x => x.2.D).getD .none), .d (.bool (decide (d2 = 0)))] (by walk_at "px"; exact rfl) ?_
  refine ws_seq (ws_if (wt_test ?_))
  walk_at "px"
  refine ⟨fun _ => ?_, fun hd0 => ?_⟩
  · refine ws_seq (ws_drop (we_callA ?_))
    walk_at "px"
    refine ⟨⟨j, rfl, hW0, hj, hrv⟩, fun r m5 ⟨er, hW5, hN5⟩ => ?_⟩
    walk_at "px"
    exact hN5
  have hd0 := of_decide_eq_false hd0
  refine ws_next ?_
  refine ws_seq (ws_if (wt_test ?_))
  walk_at "px"
  refine ⟨fun _ => ?_, fun hd1 => ?_⟩
  · by_cases h2 : d2 = 0
    · rw [decide_eq_true h2]
      walk_at "px"
      refine we_callA ?_
      walk_at "px"
      refine ⟨⟨x, y, 10 + d3, rfl, hW0, hrv, by omega, by omega, hO⟩, fun r m5 ⟨er, hW5, hN5⟩ => ?_⟩
      subst er
      exact ⟨rfl, hW5, hN5⟩
    · rw [decide_eq_false h2]
      walk_at "px"
      refine we_callA ?_
      walk_at "px"
      refine ⟨⟨_, _, 10 + d3, rfl, hW0, hrv, by omega, by omega, hON⟩, fun r m5 ⟨er, hW5, hN5⟩ => ?_⟩
      subst er
      exact ⟨rfl, hW5, hN5⟩
  have hd1 := of_decide_eq_false hd1
  refine ws_next ?_
  refine ws_seqI Unit (fun _ => [.v (.ref m4.s), .d (.tuple [x, y]), .l [.int d0, .int (0 + (j : Int)), .int d2, .int d3], .d (.int c), .d (.str (slotS j)), .d (t j).D, .d ((nb.map fun x => x.1.D).getD .none), .d ((nb.map fun x => x.2.D).getD .none), .d (.bool (decide (d2 = 0)))]) (fun _ => True) ?_ fun _ _ => ?_
  · refine ws_if ?_
    walk_at "px"
    by_cases h4 : d0 < 4
    · rw [decide_eq_true h4]
      cases nb with
      | none =>
        dsimp only [Option.map, Option.getD]
        walk_at "px"
        exact nxt () (by walk_at "wk") rfl True.intro
      | some z =>
        obtain ⟨n, b⟩ := z
        dsimp only [Option.map, Option.getD]
        walk_at "px"
        refine we_callA ?_
        walk_at "px"
        refine ⟨⟨_, c, b, rfl, hW0, hrv, c0, c1, hb, ?_⟩, fun r m5 h => h⟩
        by_cases h2 : d2 = 0
        · rw [decide_eq_true h2]
          exact .inr rfl
        · rw [decide_eq_false h2]
          exact .inl (by simp)
    · rw [decide_eq_false h4]
      walk_at "px"
      exact nxt () (by walk_at "wk") rfl True.intro
  refine ws_seqI Unit (fun _ => [.v (.ref m4.s), .d (.tuple [x, y]), .l [.int d0, .int (0 + (j : Int)), .int d2, .int d3], .d (.int c), .d (.str (slotS j)), .d (t j).D, .d ((nb.map fun x => x.1.D).getD .none), .d ((nb.map fun x => x.2.D).getD .none), .d (.bool (decide (d2 = 0)))]) (fun _ => True) ?_ fun _ _ => ?_
  · refine ws_if ?_
    walk_at "px"
    by_cases h6 : d0 < 6
    · rw [decide_eq_true h6]
      walk_at "px"
      by_cases hbd : (t j).state = "bound"
      · rw [decide_eq_true hbd]
        walk_at "px"
        by_cases h2 : d2 = 0
        · rw [decide_eq_true h2]
          walk_at "px"
          refine we_callA ?_
          walk_at "px"
          refine ⟨⟨j, t j, (t j).tr - 1, rfl, hW0, hj, hrv, ht, hbd, .inr rfl⟩, fun r m5 ⟨er, hW5, hN5⟩ => ?_⟩
          subst er
          exact ⟨rfl, hW5, hN5⟩
        · rw [decide_eq_false h2]
          walk_at "px"
          refine we_callA ?_
          walk_at "px"
          refine ⟨⟨j, t j, (t j).tr, rfl, hW0, hj, hrv, ht, hbd, .inl rfl⟩, fun r m5 ⟨er, hW5, hN5⟩ => ?_⟩
          subst er
          exact ⟨rfl, hW5, hN5⟩
      · rw [decide_eq_false hbd]
        walk_at "px"
        exact nxt () (by walk_at "wk") rfl True.intro
    · rw [decide_eq_false h6]
      walk_at "px"
      exact nxt () (by walk_at "wk") rfl True.intro
  refine ws_seq (ws_if ?_)
  walk_at "px"
  by_cases h6 : 6 ≤ d0
  · rw [decide_eq_true h6]
    walk_at "px"
    refine opP_inD (d := .str (t j).state) (ds := [.str "bound", .str "running"]) rfl rfl (okx_sh (tq_sok htok) (by decide)) (by decide +kernel) ?_
    rw [busy_any htok]
    by_cases hbz : isBusy (t j)
    · rw [decide_eq_true hbz]
      cases nb with
      | none => exact absurd hbz (h.no rfl j hj)
      | some z =>
        obtain ⟨n, b⟩ := z
        refine ⟨true, rfl, fun _ => ?_, fun z => (by cases z)⟩
        dsimp only [Option.map, Option.getD]
        by_cases h2 : d2 = 0
        · rw [decide_eq_true h2]
          walk_at "px"
          refine we_callA ?_
          walk_at "px"
          refine ⟨⟨j, t j, n.nv - 1, n, rfl, hW0, hj, hrv, ht, hbz, hn, .inr rfl⟩, fun r m5 ⟨er, hW5, hN5⟩ => ?_⟩
          subst er
          exact ⟨rfl, hW5, hN5⟩
        · rw [decide_eq_false h2]
          walk_at "px"
          refine we_callA ?_
          walk_at "px"
          refine ⟨⟨j, t j, n.nv, n, rfl, hW0, hj, hrv, ht, hbz, hn, .inl rfl⟩, fun r m5 ⟨er, hW5, hN5⟩ => ?_⟩
          subst er
          exact ⟨rfl, hW5, hN5⟩
    · rw [decide_eq_false hbz]
      refine ⟨false, rfl, fun z => (by cases z), fun _ => ?_⟩
      walk_at "px"
      exact NxP.refl
  · rw [decide_eq_false h6]
    walk_at "px"
    exact NxP.refl
end
/-! the digits of a script's cell: the defs -/
section
variable {P : Program} {w : World} {K : PySem.W.Frag} {mg : Str → Option Value} {base : Heap}
theorem ok__law_number (T : TX K mg w) : FnOk P w K mg base CX0 1 T.a__law_number T.d__law_number ["script", "k"] (sp_num K) := by
  refine T.F__law_number.ok sc__law_number (fun vs H Q E h => ?_) (fun cdv A outer s H vs Q E hr h => ?_)
  · obtain ⟨a, ns, k, rfl, _⟩ := h
    rfl
  · obtain ⟨a, ns, k, rfl, hS, hk, q⟩ := h
    refine ⟨_, (pss_cons (ps_set (i := 2) sc__law_number.nd rfl (Or.inl rfl) (pv 1))
      (C8.pss_cut (ps_if (pt_cmpR op_lt (pv 1) (pe_callB call_len_seq (by rfl) T.n_len PySem.boot_len (pa_cons (pv 0) pa_nil)) (nomark _)) (pss_one (ps_set (i := 2) sc__law_number.nd rfl (Or.inl rfl) (pe_ix ix_list (pv 0) (pv 1) (fun _ _ => rfl)))) pss_nil)
      (pss_cons (ps_if (PW.pt (pw_or (pt_cmpR op_ge (pv 2) (pe_op op_pow pe_int pe_int) (nomark _)) (pw_or1 (pt_cmpR op_lt (pv 2) pe_int (nomark _))))) (pss_one (ps_ret (pe_callB call_abs (by rfl) T.n_abs (by decide +kernel) (pa_cons (pv 2) pa_nil)))) pss_nil)
      (pss_one (ps_ret (pe_op op_mod (pe_callTy call_int1 (by rfl) T.n_int (by decide +kernel) (pa_cons (pe_op op_mul (pe_op op_mod (pe_callTy call_int1 (by rfl) T.n_int (by decide +kernel) (pa_cons (pe_op op_mul (pe_op op_add (pe_op op_add (pv 2) (pe_op op_mul pe_int (pv 1))) pe_int) pe_int) pa_nil)) pe_int) pe_int) pa_nil)) pe_int)))))), ?_⟩
    refine ⟨_, rfl, fun σ' G => H = G ∧ ∃ c : Int, σ' = [some (.ref a), some (.int k), some (.int c)], ?_, ?_⟩
    · refine ⟨.int k, rfl, .ref a, rfl, a, _, rfl, .inl hS, _, _, rfl, rfl, _, rfl, ifd (fun hc => ?_) (fun hc => ?_)⟩
      · rw [List.length_map] at hc
        obtain ⟨m, rfl⟩ := Int.eq_ofNat_of_zero_le hk.1
        have hg : ns[m]? = some ns[m] := List.getElem?_eq_getElem (by omega)
        exact ⟨_, rfl, _, rfl, a, _, _, _, rfl, rfl, hS, at_map hg, rfl, _, rfl⟩
      · exact ⟨rfl, _, rfl⟩
    rintro σ' _ ⟨rfl, c, rfl⟩
    refine ⟨_, rfl, _, _, rfl, rfl, ⟨by decide, by decide, by decide⟩, _, _, rfl, rfl, _, rfl, ifd (fun hb => ?_) (fun hb => ?_)⟩
    · refine ⟨_, rfl, _, rfl, q _ ?_⟩
      split <;> omega
    · refine ⟨_, rfl, _, _, rfl, rfl, _, rfl, ifd (fun hb2 => ?_) (fun hb2 => ?_)⟩
      · refine ⟨_, rfl, _, rfl, q _ ?_⟩
        split <;> omega
      · refine ⟨_, rfl, _, rfl, _, _, rfl, rfl, .inl ⟨by decide, by decide⟩, _, _, rfl, rfl, _, _, rfl, rfl, _, _, rfl, rfl, .inr ⟨by decide, by decide⟩, .inl ⟨_, rfl, _, _, rfl, rfl, (by show (0 : Int) < _; decide), _, _, rfl, rfl, .inr ⟨by decide, by decide⟩, .inl ⟨_, rfl, _, _, rfl, rfl, (by show (0 : Int) < _; decide), q _ (Int.emod_nonneg _ (by decide))⟩⟩⟩
theorem ok__law_digits (T : TX K mg w) : FnOk P w K mg base CX0 2 T.a__law_digits T.d__law_digits ["script", "k", "sizes"] (sp_digits K) := by
  refine T.F__law_digits.ok sc__law_digits (fun vs H Q E h => ?_) (fun cdv A outer s H vs Q E hr h => ?_)
  · obtain ⟨a, b, ns, zs, k, rfl, _⟩ := h
    rfl
  · obtain ⟨a, b, ns, zs, k, rfl, hS, hk, hB, hzl, hz, q⟩ := h
    refine ⟨_, (pss_cons (ps_set (i := 3) sc__law_digits.nd rfl (Or.inl rfl) (pe_call (ok__law_number T) (hr.mono (by decide)) (by rfl) T.g__law_number T.F__law_number.kp T.b__law_number .nil pass0 (pa_cons (pv 0) (pa_cons (pv 1) pa_nil))))
      (pss_cons (ps_set (i := 4) sc__law_digits.nd rfl (Or.inl rfl) (pe_lst pa_nil))
      (pss_cons (ps_for PassesOwn.never rfl (pi_list (pv 2)) (pg_name (i := 5) sc__law_digits.nd rfl (Or.inl rfl))
        (pss_cons (ps_expr (pe_bm PySem.F.plainAttrs_list PySem.F.slot_list_append PySem.F.type_list_append mt_append (pv 4) (pa_cons (pe_op op_mod (pe_callTy call_int1 (by rfl) T.n_int (by decide +kernel) (pa_cons (pv 3) pa_nil)) (pv 5)) pa_nil)))
        (pss_one (ps_set (i := 3) sc__law_digits.nd rfl (Or.inl rfl) (pe_op op_fdiv (pe_callTy call_int1 (by rfl) T.n_int (by decide +kernel) (pa_cons (pv 3) pa_nil)) (pv 5))))))
      (pss_one (ps_ret (pv 4)))))), ?_⟩
    refine ⟨_, rfl, _, rfl, a, ns, k, rfl, hS, hk, fun n hn => ?_⟩
    refine ⟨Nat.zero_le _, fun o ho => ?_⟩
    have s1 := same_upd (o := .lst []) ho
    refine ⟨_, rfl, b, rfl, ⟨_, s1.seq hB⟩, for_list (K := K) (a := b) (xs := zs.map V.int) (fun i σ H2 => ∃ (n : Int) (ds : List Int) (x5 : Option V), 0 ≤ n ∧ σ = [some (.ref a), some (.int k), some (.ref b), some (.int n), some (.ref o), x5] ∧ Same H H2 ∧ H2 o = some (.lst (ds.map V.int)) ∧ Digs ds (zs.take i))
      ⟨n, [], none, hn, rfl, s1, upd_same, trivial⟩ (fun i σ H2 _ ⟨_, _, _, _, _, h, _⟩ => h.seq hB) ?_ ?_⟩
    · rintro i x σ H2 hx ⟨n, ds, x5, hn, rfl, g1, g2, g3⟩
      obtain ⟨z, hzi, rfl⟩ := map_at hx
      have z0 := hz z (List.mem_of_getElem? hzi)
      have hl := digs_len g3
      rw [List.length_take] at hl
      refine ⟨_, rfl, .inl ⟨rfl, _, sql g2⟩, _, rfl, .inl ⟨_, rfl, _, rfl, _, _, rfl, rfl, z0.1, o, _, _, rfl, rfl, g2, szl (by rw [List.length_map]; omega), ?_⟩⟩
      refine ⟨_, rfl, .inl ⟨_, rfl, _, rfl, _, _, rfl, rfl, z0, ?_⟩⟩
      refine ⟨n / z, ds ++ [n % z], _, Int.ediv_nonneg hn (by omega), rfl, same_put g1 ho, ?_, ?_⟩
      · rw [upd_same, List.map_append]
        rfl
      · rw [take_more hzi]
        exact digs_snoc g3 (Int.emod_nonneg _ (by omega)) (Int.emod_lt_of_pos _ z0.1)
    · rintro σ H2 ⟨n, ds, x5, hn, rfl, g1, g2, g3⟩
      rw [List.length_map, List.take_length] at g3
      exact ⟨_, rfl, q o _ ds ho g1 g2 g3⟩
end
section
variable {P : Program} {w : World} {K : PySem.W.Frag} {mg : Str → Option Value} {base : Heap}
theorem ok_Store___init__ (T : TX K mg w) : FnOk P w K mg base CX0 1 T.a_Store___init__ T.d_Store___init__ ["self"] (sp_snew T.a_Store) := by
  refine T.F_Store___init__.ok sc_Store___init__ (fun vs H Q E h => ?_) (fun cdv A outer s H vs Q E hr h => ?_)
  · obtain ⟨p, dx, rfl, _⟩ := h
    rfl
  · obtain ⟨p, dx, rfl, hp, q⟩ := h
    refine ⟨_, (pss_cons (ps_fld (pv 0) pe_int rfl)
      (pss_cons (ps_fld (pv 0) pe_int rfl)
      (pss_cons (ps_fld (pv 0) pe_dnewT rfl)
      (pss_one (ps_fld (pv 0) (pe_lst pa_nil) rfl))))), ?_⟩
    have kC := T.K_Store
    refine ⟨_, rfl, p, T.a_Store, dx, [], rfl, hp, kC, T.na_Store_revision, (by show 0 < 1000; decide), ?_⟩
    refine ⟨_, rfl, p, T.a_Store, dx, _, rfl, upd_same, kC, T.na_Store_oldest, (by show 1 < 1000; decide), ?_⟩
    refine fun t ht => ⟨_, rfl, p, T.a_Store, dx, putF "oldest" (V.int 0) (putF "revision" (V.int 0) []), rfl, ?_, kC, T.na_Store__table, (by show 2 < 1000; decide), ?_⟩
    · rw [upd_ne (fun z => by rw [← z, upd_same] at ht; cases ht), upd_same]
    refine ⟨by decide, fun c hc => ⟨_, rfl, p, T.a_Store, dx, putF "_table" (V.ref t) (putF "oldest" (V.int 0) (putF "revision" (V.int 0) [])), rfl, ?_, kC, T.na_Store__changes, (by show 3 < 1000; decide), ?_⟩⟩
    · rw [upd_ne (fun z => by rw [← z, upd_same] at hc; cases hc), upd_same]
    have nt : t ≠ p := fun z => by rw [z, upd_same] at ht; cases ht
    have nc : c ≠ p := fun z => by rw [z, upd_same] at hc; cases hc
    have ht0 : H t = none := by rw [upd_ne nt, upd_ne nt] at ht; exact ht
    rw [upd_ne nc] at hc
    have ntc : t ≠ c := fun z => by rw [← z, upd_same] at hc; cases hc
    have hc0 : H c = none := by rw [upd_ne ntc.symm, upd_ne nc, upd_ne nc] at hc; exact hc
    refine q t c _ ht0 hc0 ntc ?_ ?_ ?_ fun x o hx hxp => ?_
    · rw [upd_same]; rfl
    · rw [upd_ne nt, upd_ne ntc, upd_ne nt, upd_same]
    · rw [upd_ne nc, upd_same]
    · rw [upd_ne hxp, upd_ne (ne_of_none hx hc0), upd_ne hxp, upd_ne (ne_of_none hx ht0), upd_ne hxp, upd_ne hxp]
      exact hx
end
/-! # the law of a life -/
abbrev kT_P (i : Nat) (sz st : Int) : List PyData := [.tuple [.str "task", .str (slotS i), tk8 (.int 4) (.str "run") (.int sz) (.str "new") (.int st) (.str "") (.int 0) (.str "")]]
structure FI (i : Nat) (m : SM) : Prop where
  si : SI m
  rv : m.rev ≤ i
  n : lkD m.tab kN = none
  b : lkD m.tab kB = none
  t : ∃ t : Nat → TQ, ∀ j : Nat, j < i → lkD m.tab (kT j) = some (t j).D ∧ (t j).Ok ∧ ¬ isBusy (t j)
theorem ans_notL {m m' : SM} {cs ps dl : List PyData} {r : Rk} (h : Ans m cs ps dl r m') : notL r := by
  cases hb : (heldL m.tab cs dl).all id with
  | true => rw [(h.1 hb).2]; exact True.intro
  | false => obtain ⟨_, j, e, _⟩ := h.2 hb; rw [e]; exact True.intro
theorem fi_0 {s t c : Addr} : FI 0 (sm0 s t c) := ⟨SI.zero, Int.le_refl _, rfl, rfl, ⟨fun _ => ⟨0, 0, 0, "", 0, "", 0⟩, fun j hj => by omega⟩⟩
theorem gt_t {i : Nat} (hi : i < 3) {sz st : Int} (h1 : 0 ≤ sz ∧ sz ≤ 30) (h2 : 0 ≤ st ∧ st ≤ 1) : GT [] (kT_P i sz st) :=
  ⟨by show 0 ≤ 3; omega, by show 1 ≤ 3; omega, rfl, by rw [List.all_cons, put_t (t := ⟨0, 0, sz, "new", st, "", 0⟩) hi ⟨h1, h2, .inl rfl, .inl rfl, by show (0 : Int) ≤ 0 ∧ (0 : Int) ≤ 1000; omega⟩]; rfl, nd1⟩
theorem fi_s {m : SM} {i : Nat} (h : FI i m) (hi : i < 3) {sz st : Int} (h1 : 0 ≤ sz ∧ sz ≤ 30) (h2 : 0 ≤ st ∧ st ≤ 1) : FI (i + 1) (chg m (kT_P i sz st) []) := by
  obtain ⟨t, ht⟩ := h.t
  have hg := gt_t hi h1 h2
  have hr0 := h.si.r0
  have hrv := h.rv
  have hb : ∃ b', bornOf m.tab (kT i) (m.rev + 1) = .int b' := by
    unfold bornOf
    cases hq : lkD m.tab (kT i) with
    | none => exact ⟨_, rfl⟩
    | some d => obtain ⟨b, v, c, rfl, _⟩ := h.si.ent hq; exact ⟨b, rfl⟩
  obtain ⟨b', eb⟩ := hb
  refine ⟨h.si.chg hg.isT hg.ok8, by show m.rev + 1 ≤ _; omega, by rw [lk_one, if_neg kNT, h.n], by rw [lk_one, if_neg kBT, h.b], ⟨setT t i ⟨b', m.rev + 1, sz, "new", st, "", 0⟩, fun j hj => ?_⟩⟩
  by_cases e : j = i
  · subst e
    have es : setT t j ⟨b', m.rev + 1, sz, "new", st, "", 0⟩ j = ⟨b', m.rev + 1, sz, "new", st, "", 0⟩ := by unfold setT; rw [if_pos rfl]
    rw [es]
    refine ⟨by rw [lk_one, if_pos rfl, eb], ⟨h1, h2, .inl rfl, .inl rfl, by show (0 : Int) ≤ 0 ∧ (0 : Int) ≤ 1000; omega⟩, ?_⟩
    unfold isBusy
    show ¬ (("new" : Str) = "bound" ∨ ("new" : Str) = "running")
    decide +kernel
  · have es : setT t i ⟨b', m.rev + 1, sz, "new", st, "", 0⟩ j = t j := by unfold setT; rw [if_neg e]
    rw [es]
    obtain ⟨q1, q2, q3⟩ := ht j (by omega)
    exact ⟨by rw [lk_one, if_neg (kTT (by omega) hi e)]; exact q1, q2, q3⟩
def Good78 (m : SM) : Prop := W m ∧ m.rev ≤ 3 ∧ lkD m.tab kN = none
theorem fi_g {m : SM} (h : FI 3 m) : Good78 m := by
  obtain ⟨t, ht⟩ := h.t
  refine ⟨⟨none, t, h.si, h.n, h.b, fun j hj => (ht j hj).1, fun j hj => (ht j hj).2.1, fun n b e => (by cases e), fun _ j hj => (ht j hj).2.2⟩, h.rv, h.n⟩
def sp_law (K : PySem.W.Frag) (P : Addr) : Sp := fun vs H Q _ => ∃ (a : Addr) (ns : List Int), vs = [.ref a] ∧ SqL K H a (ns.map V.int) ∧ ns.length ≤ 63 ∧ LamX.TabS H P sbkQ ∧ ∀ H', Q (.bl true) H'
structure LI78 (i : Nat) (m : SM) (x y : PyData) (life : Int) : Prop where
  w : W m
  rv : m.rev ≤ 3 + (i : Int)
  o : OldOk m x y
  l : ∀ n : NQ, lkD m.tab kN = some n.D → life ≤ n.life
  z : lkD m.tab kN = none → life ≤ 0
section
variable {P : Program} {w : World} {K : PySem.W.Frag} {mg : Str → Option Value} {base : Heap}
theorem ok__law_fill (T : TX K mg w) (TB : LamX.TabB base mg T.cc__sorted_by_key T.pp__sorted_by_key) : FnOk P w K mg base CX0 9 T.a__law_fill T.d__law_fill ["script"] (sp_filled K T.a_Store T.pp__sorted_by_key sbkQ Good78) := by
  refine T.F__law_fill.ok sc__law_fill (fun vs H Q E h => ?_) (fun cdv A outer s H vs Q E hr h => ?_)
  · obtain ⟨a, ns, rfl, _⟩ := h
    rfl
  · obtain ⟨a, ns, rfl, hS, hT, q⟩ := h
    refine ⟨_, (pss_cons (ps_set (i := 1) sc__law_fill.nd rfl (Or.inl rfl) (pe_make0 T.M_Store (ok_Store___init__ T) (hr.mono (by decide)) (by rfl) T.g_Store T.b_Store___init__ .nil pass0))
      (pss_cons (ps_for PassesOwn.never rfl (pi_range1 (by rfl) T.n_range (pa_cons pe_int pa_nil)) (pg_name (i := 2) sc__law_fill.nd rfl (Or.inl rfl))
        (pss_cons (ps_asg (pe_call (ok__law_digits T) (hr.mono (by decide)) (by rfl) T.g__law_digits T.F__law_digits.kp T.b__law_digits .nil pass0 (pa_cons (pv 0) (pa_cons (pv 2) (pa_cons (pe_lst (pa_cons pe_int (pa_cons pe_int pa_nil))) pa_nil)))) (pgK_unl (K := K) (n := 2) rfl rfl (pgs_cons (pg_name (i := 3) sc__law_fill.nd rfl (Or.inl rfl)) (pgs_cons (pg_name (i := 4) sc__law_fill.nd rfl (Or.inl rfl)) pgs_nil))))
        (pss_one (ps_expr (pe_meth (pv 1) T.K_Store T.m_Store_apply (ok_Store_apply T TB) (hr.mono (by decide)) T.b_Store_apply .nil passL (pa_cons (pe_tup (pa_cons (pe_tup pa_nil) (pa_cons (pe_tup (pa_cons (pe_tup (pa_cons pe_str (pa_cons (pe_op op_addS pe_str (pe_callTy call_strN (by rfl) T.n_str (by decide +kernel) (pa_cons (pv 2) pa_nil))) (pa_cons (pe_tup (pa_cons pe_int (pa_cons pe_str (pa_cons (pv 3) (pa_cons pe_str (pa_cons (pv 4) (pa_cons pe_str (pa_cons pe_int (pa_cons pe_str pa_nil))))))))) pa_nil)))) pa_nil)) (pa_cons (pe_tup pa_nil) pa_nil)))) pa_nil))))))
      (pss_one (ps_ret (pv 1))))), ?_⟩
    refine fun x dx h1 h2 h3 => ⟨x, dx, rfl, upd_same, fun t c H2 ht hc htc hs2 ht2 hc2 keep => ⟨rfl, ?_⟩⟩
    have k1 : ∀ y o, H y = some o → H2 y = some o := fun y o e => by
      have n1 : y ≠ x := fun z => by rw [z, h1] at e; cases e
      have n2 : y ≠ dx := fun z => by rw [z, h2] at e; cases e
      exact keep y o (by rw [upd_ne n1, upd_ne n2]; exact e) n1
    have hT2 : LamX.TabS H2 T.pp__sorted_by_key sbkQ := hT.ext k1
    have hc0 : H c = none := by
      have n1 : c ≠ x := fun z => by rw [z, upd_same] at hc; cases hc
      have n2 : c ≠ dx := fun z => by rw [z, upd_ne h3, upd_same] at hc; cases hc
      rw [upd_ne n1, upd_ne n2] at hc; exact hc
    obtain ⟨F, hR⟩ := st2_new hs2 ht2 hc2 hT2 (scr_keep hS k1 hc0)
    dsimp only [L2.gName]
    show tSeq _ _ { nx := fun _ H' => Q .non H', rt := Q } (some (.ref a) :: some (.ref x) :: List.replicate 3 none) H2
    refine enterG (K := K) (E := E) (B := fun _ => none) (ρ := [.v (.ref a), .v (.ref x), .u, .u, .u]) (rt := fun r m => r = .v (.ref m.1.s) ∧ m.2 = (a, ns) ∧ Good78 m.1) hR (fun _ _ z => by cases z) rfl (fun i t ht => ?_) (fun v r m' F' H' B' hk st rl rel => ?_) ?_
    · match i with
      | 0 => cases ht; exact ⟨_, rfl, .inr ⟨_, rfl, rfl⟩⟩
      | 1 => cases ht; exact ⟨_, rfl, .inr ⟨_, rfl, rfl⟩⟩
      | 2 | 3 | 4 => cases ht; exact ⟨none, rfl, .inl rfl⟩
      | i + 5 => cases ht
    · obtain ⟨e1, e2, hg⟩ := hk
      subst e1
      obtain ⟨m1, sc⟩ := m'
      cases e2
      cases (show v = .ref m1.s from rel)
      exact q m1 F' B' H' hg rl st.s
    clear q hS keep k1 hs2 ht2 hc2 hT2 h1 h2 h3 ht hc htc hT hc0 hR
    have L1 : Part (R2 K T.a_Store T.pp__sorted_by_key sbkQ) (stoR K T.a_Store T.pp__sorted_by_key sbkQ) (fun m => m.1) (fun m a => (a, m.2)) := Part.left
    have L2' : Part (R2 K T.a_Store T.pp__sorted_by_key sbkQ) (scrR K) (fun m => m.2) (fun m a => (m.1, a)) := Part.right
    walk_at "pn"
    walk_at "px"
    refine ws_for ?_
    walk_at "px"
    refine ⟨SM, fun m => [.v (.ref a), .v (.ref m.s), .u, .u, .u], fun m => (m, a, ns), fun i m => FI i m ∧ m.s = x, nxt (sm0 x t c) (by walk_at "wk") rfl ⟨fi_0, rfl⟩, fun i y m hx hI => ?_, fun m hI => ?_⟩
    · obtain ⟨hi, rfl⟩ := nums_at hx
      clear hx
      obtain ⟨hI, hms⟩ := hI
      have hi : i < 3 := hi
      have hsi := hI.si
      have hrv := hI.rv
      walk_at "pn"
      refine wg_name ?_
      walk_at "pn"
      walk_at "px"
      refine we_dig L2' [20, 2] (by decide) (by decide) ?_
      walk_at "px"
      refine fun es hE => ?_
      obtain ⟨e1, e2, rfl, c1, c2⟩ := digs2 hE
      dsimp only [List.map]
      walk_at "px"
      refine we_methP (at_ := SM.s) L1 (clsS fun _ => rfl) rfl ?_
      walk_at "px"
      refine cbP_strI (num_lg i hi) (opP_addS (by have := num_ln i hi; show 4 + _ ≤ _; exact sz (by omega)) ?_)
      walk_at "px"
      have hg := gt_t hi (sz := e1) (st := e2) (by omega) (by omega)
      refine ⟨⟨_, rfl, hg.ok8, hg.isT, hsi.ok (by omega)⟩, fun _ z => z, fun r m3 hr3 => ?_⟩
      have ha := hr3 _ _ _ rfl
      have em := (ans_all (cs := []) ha rfl (by simp)).1
      have hF2 : FI (i + 1) m3 := by rw [em]; exact fi_s hI hi (by omega) (by omega)
      have hs3 : m3.s = m.s := by rw [em]; rfl
      refine ⟨ans_notL ha, ?_⟩
      clear em ha hr3
      rw [← hs3]
      exact nxt m3 (by walk_at "wk") rfl ⟨hF2, hs3.trans hms⟩
    · obtain ⟨hI, hms⟩ := hI
      have hI : FI 3 m := hI
      walk_at "pn"
      walk_at "px"
      exact fi_g hI
theorem ok_law (T : TX K mg w) (TB : LamX.TabB base mg T.cc__sorted_by_key T.pp__sorted_by_key) : FnOk P w K mg base CX0 12 T.a_law T.d_law ["script"] (sp_law K T.pp__sorted_by_key) := by
  refine T.F_law.ok sc_law (fun vs H Q E h => ?_) (fun cdv A outer s H vs Q E hr h => ?_)
  · obtain ⟨a, ns, rfl, _⟩ := h
    rfl
  · obtain ⟨a, ns, rfl, hS, hlen, hT, q⟩ := h
    refine ⟨_, (pss_cons (ps_set (i := 1) sc_law.nd rfl (Or.inl rfl) (pe_call (ok__law_fill T TB) (hr.mono (by decide)) (by rfl) T.g__law_fill T.F__law_fill.kp T.b__law_fill .nil pass0 (pa_cons (pv 0) pa_nil)))
      (pss_cons (ps_set (i := 2) sc_law.nd rfl (Or.inl rfl) (pe_tup (pa_cons pe_non (pa_cons pe_non pa_nil))))
      (pss_cons (ps_set (i := 3) sc_law.nd rfl (Or.inl rfl) pe_int)
      (pss_cons (ps_for PassesOwn.never rfl (pi_range2 (by rfl) T.n_range (pa_cons pe_int (pa_cons pe_int pa_nil))) (pg_name (i := 4) sc_law.nd rfl (Or.inl rfl))
        (pss_cons (ps_set (i := 5) sc_law.nd rfl (Or.inl rfl) (pe_call (ok__law_digits T) (hr.mono (by decide)) (by rfl) T.g__law_digits T.F__law_digits.kp T.b__law_digits .nil pass0 (pa_cons (pv 0) (pa_cons (pv 4) (pa_cons (pe_lst (pa_cons pe_int (pa_cons pe_int (pa_cons pe_int (pa_cons pe_int pa_nil))))) pa_nil)))))
        (pss_cons (ps_if (PW.pt (pw_or (pt_not (ptK_truth (K := K) rfl (pe_call (ok__law_deed T TB) (hr.mono (by decide)) (by rfl) T.g__law_deed T.F__law_deed.kp T.b__law_deed .nil pass0 (pa_cons (pv 1) (pa_cons (pv 2) (pa_cons (pv 5) (pa_cons (pv 4) pa_nil))))) (by intro _; rfl))) (pw_or1 (pt_not (ptK_truth (K := K) rfl (pe_call (ok__law_good T) (hr.mono (by decide)) (by rfl) T.g__law_good T.F__law_good.kp T.b__law_good .nil pass0 (pa_cons (pv 1) pa_nil)) (by intro _; rfl)))))) (pss_one (ps_ret pe_bl)) pss_nil)
        (pss_cons (ps_set (i := 6) sc_law.nd rfl (Or.inl rfl) (pe_meth (pv 1) T.K_Store T.m_Store_entry (ok_Store_entry T) (hr.mono (by decide)) T.b_Store_entry .nil pass0 (pa_cons pe_str (pa_cons pe_str pa_nil))))
        (pss_one (ps_if (pt_cmpR op_notN1 (pv 6) pe_non (nomark _)) (pss_cons (ps_if (pt_cmpR op_lt (pe_ix (ixK_tup (K := K) rfl) (pe_ix (ixK_tup (K := K) rfl) (pv 6) pe_int (fun _ _ => rfl)) pe_int (fun _ _ => rfl)) (pv 3) (nomark _)) (pss_one (ps_ret pe_bl)) pss_nil)
          (pss_cons (ps_set (i := 3) sc_law.nd rfl (Or.inl rfl) (pe_ix (ixK_tup (K := K) rfl) (pe_ix (ixK_tup (K := K) rfl) (pv 6) pe_int (fun _ _ => rfl)) pe_int (fun _ _ => rfl)))
          (pss_one (ps_if (PW.pt (pw_and (pt_cmpR (opK_eqD (K := K) rfl hr.units) (pv 2) (pe_tup (pa_cons pe_non (pa_cons pe_non pa_nil))) (nomark _)) (pw_and1 (pt_cmpR op_eq (pe_op op_mod (pe_callTy call_intN (by rfl) T.n_int (by decide +kernel) (pa_cons (pv 4) pa_nil)) pe_int) pe_int (nomark _))))) (pss_one (ps_set (i := 2) sc_law.nd rfl (Or.inl rfl) (pe_tup (pa_cons (pv 6) (pa_cons (pe_meth (pv 1) T.K_Store T.m_Store_entry (ok_Store_entry T) (hr.mono (by decide)) T.b_Store_entry .nil pass0 (pa_cons pe_str (pa_cons pe_str pa_nil))) pa_nil))))) pss_nil)))) pss_nil))))))
      (pss_one (ps_ret pe_bl)))))), ?_⟩
    refine ⟨_, rfl, a, ns, rfl, hS, hT, fun m F B H2 hG hR sB => ?_⟩
    dsimp only [L2.gName]
    show tSeq _ _ { nx := fun _ H' => Q .non H', rt := Q } (some (.ref a) :: some (.ref m.s) :: List.replicate 5 none) H2
    refine enterG (K := K) (E := E) (B := B) (ρ := [.v (.ref a), .v (.ref m.s), .u, .u, .u, .u, .u]) (rt := fun r _ => r = .d (.bool true)) hR sB rfl (fun i t ht => ?_) (fun v r m' F' H' B' hk st rl rel => ?_) ?_
    · match i with
      | 0 => cases ht; exact ⟨_, rfl, .inr ⟨_, rfl, rfl⟩⟩
      | 1 => cases ht; exact ⟨_, rfl, .inr ⟨_, rfl, rfl⟩⟩
      | 2 | 3 | 4 | 5 | 6 => cases ht; exact ⟨none, rfl, .inl rfl⟩
      | i + 7 => cases ht
    · subst hk
      rw [dq_bl rel]
      exact q H'
    clear q hS hT hR sB hlen
    obtain ⟨hW, hr3, hn0⟩ := hG
    have L1 : Part (R2 K T.a_Store T.pp__sorted_by_key sbkQ) (stoR K T.a_Store T.pp__sorted_by_key sbkQ) (fun m => m.1) (fun m a => (a, m.2)) := Part.left
    have L2' : Part (R2 K T.a_Store T.pp__sorted_by_key sbkQ) (scrR K) (fun m => m.2) (fun m a => (m.1, a)) := Part.right
    walk_at "pn"
    walk_at "px"
    refine ws_for ?_
    walk_at "px"
    refine ⟨SM × PyData × PyData × Int, fun s => [.v (.ref a), .v (.ref s.1.s), .d (.tuple [s.2.1, s.2.2.1]), .d (.int s.2.2.2), .u, .u, .u], fun s => (s.1, a, ns), fun i s => LI78 i s.1 s.2.1 s.2.2.1 s.2.2.2, nxt (m, .none, .none, 0) (by walk_at "wk") rfl ⟨hW, by show m.rev ≤ 3 + ((0 : Nat) : Int); omega, .inl ⟨rfl, rfl⟩, fun n e => (by rw [hn0] at e; cases e), fun _ => Int.le_refl _⟩, fun i y s hx hI => ?_, fun s hI => ?_⟩
    · obtain ⟨hi, rfl⟩ := nums_at hx
      clear hx
      obtain ⟨m1, x, y, life⟩ := s
      have hI : LI78 i m1 x y life := hI
      have hi : i < 40 := hi
      have hrv := hI.rv
      walk_at "pn"
      refine wg_name ?_
      walk_at "pn"
      walk_at "px"
      refine we_dig L2' [8, 3, 4, 50] (by decide) (by decide) ?_
      walk_at "px"
      refine fun es hE => ?_
      obtain ⟨d0, d1, d2, d3, rfl, c0, c1, c2, c3⟩ := digs4 hE
      dsimp only [List.map]
      walk_at "px"
      refine we_callAP L1 ?_
      walk_at "px"
      refine ⟨⟨x, y, d0, d1, d2, d3, 3 + (i : Int), rfl, hI.w, by show m1.rev ≤ 200; omega, hI.o, c0, c1, c2, c3, by omega, by omega⟩, fun r m2 ⟨er, hW2, hN2⟩ => ?_⟩
      subst er
      have hN2 : NxP m1 m2 := hN2
      have hs2 := hN2.s
      have hr2 := hN2.rv
      have hr2' := hN2.rv2
      have hO2 := hI.o.step hN2
      refine ⟨True.intro, true, rfl, fun _ => ?_, fun z => (by cases z)⟩
      rw [← hs2]
      refine wt_not (wt_truR (we_callAP L1 ?_))
      walk_at "px"
      refine ⟨⟨rfl, hW2, by show m2.rev ≤ 300; omega⟩, fun r m3 ⟨er, em⟩ => ?_⟩
      subst er em
      refine ⟨True.intro, true, rfl, fun z => (by cases z), fun _ => ?_⟩
      walk_at "px"
      refine we_methP (at_ := SM.s) L1 (clsS fun _ => rfl) rfl ?_
      walk_at "px"
      refine ⟨⟨_, _, rfl⟩, fun _ z => z, fun r m4 ⟨em, er⟩ => ?_⟩
      have er := er _ _ rfl
      subst em er
      obtain ⟨nb, t, h⟩ := hW2
      have hn := h.n
      rw [hn]
      cases nb with
      | none =>
        refine ⟨True.intro, ?_⟩
        have hL2 : LI78 (i + 1) m4 x y life := ⟨⟨none, t, h⟩, by omega, hO2, fun n e => (by rw [hn] at e; cases e), fun _ => by
          cases hq : lkD m1.tab kN with
          | none => exact hI.z hq
          | some d =>
            exfalso
            obtain ⟨nb0, t0, h0⟩ := hI.w
            cases nb0 with
            | none => rw [h0.n] at hq; cases hq
            | some z =>
              obtain ⟨n0, b0⟩ := z
              obtain ⟨n', b', e1, _⟩ := hN2.n n0 b0 h0.n h0.b
              rw [hn] at e1; cases e1⟩
        dsimp only [Option.map, Option.getD]
        walk_at "px"
        exact nxt (m4, x, y, life) (by walk_at "wk") rfl hL2
      | some z =>
        obtain ⟨n, b⟩ := z
        refine ⟨True.intro, ?_⟩
        obtain ⟨a1, a2, a3, a4, a5⟩ := h.nok n b rfl
        have hb := h.b
        have hll : life ≤ n.life := by
          obtain ⟨nb0, t0, h0⟩ := hI.w
          cases nb0 with
          | none =>
            have := hI.z h0.n
            omega
          | some z =>
            obtain ⟨n0, b0⟩ := z
            obtain ⟨n', b', e1, _, _, _, e2⟩ := hN2.n n0 b0 h0.n h0.b
            obtain rfl := nq_inj (Option.some.inj (hn.symm.trans e1))
            have := hI.l n0 h0.n
            have e2 : n0.life ≤ n.life := e2
            omega
        have hnow := OldOk.now h (by omega)
        dsimp only [Option.map, Option.getD]
        walk_at "px"
        rw [decide_eq_false (by omega : ¬ (n.life < life))]
        walk_at "px"
        have hfin : ∀ x y : PyData, OldOk m4 x y → LI78 (i + 1) m4 x y n.life := fun x y ho => ⟨⟨some (n, b), t, h⟩, by omega, ho, fun n' e => (by
          obtain rfl := nq_inj (Option.some.inj (hn.symm.trans e))
          exact Int.le_refl _), fun e => (by rw [hn] at e; cases e)⟩
        have hnone : okx 8 (.tuple [.none, .none]) = true := rfl
        have hO3 := hO2
        rcases hO2 with ⟨rfl, rfl⟩ | ⟨N, n1, B, b1, rfl, rfl, _⟩
        · refine opP_eqD (d := .tuple [.none, .none]) (e := .tuple [.none, .none]) rfl rfl (okx_sh hnone) (okx_sh hnone) ?_
          rw [eqv_okE hnone]
          refine ⟨true, rfl, fun _ => ?_, fun z => (by cases z)⟩
          walk_at "px"
          refine ⟨fun _ => ?_, fun _ => ?_⟩
          · walk_at "px"
            refine we_methP (at_ := SM.s) L1 (clsS fun _ => rfl) rfl ?_
            walk_at "px"
            refine ⟨⟨_, _, rfl⟩, fun _ z => z, fun r m5 ⟨em, er⟩ => ?_⟩
            have er := er _ _ rfl
            subst em er
            rw [hb]
            refine ⟨True.intro, ?_⟩
            walk_at "px"
            exact nxt (m5, n.D, b.D, n.life) (by walk_at "wk") rfl (hfin _ _ hnow)
          · walk_at "px"
            exact nxt (m4, .none, .none, n.life) (by walk_at "wk") rfl (hfin _ _ hO3)
        · have hok2 : okx 9 (.tuple [N.D, B.D]) = true := okx_lt8 (by show 2 ≤ 1000; omega) (by
            show (okx 8 N.D && (okx 8 B.D && true)) = true
            rw [nq_okx, bq_okx]; rfl)
          refine opP_eqD (d := .tuple [N.D, B.D]) (e := .tuple [.none, .none]) rfl rfl (okx_sh hok2) (okx_sh hnone) ?_
          rw [show PyData.eqv (.tuple [N.D, B.D]) (.tuple [.none, .none]) = false by simp [PyData.eqv, PyData.eqvAll]]
          refine ⟨false, rfl, fun z => (by cases z), fun _ => ?_⟩
          walk_at "px"
          exact nxt (m4, N.D, B.D, n.life) (by walk_at "wk") rfl (hfin _ _ hO3)
    · walk_at "pn"
      walk_at "px"
      exact rfl
end
theorem all_mk {l : PySem.W.OpenLaw} {w : World} {K : PySem.W.Frag} {h : Heap} {mg : Str → Option Value} {fa : Addr} (X : K.In h) (G : h.Ns mainGlobals mg) (hfa : mg "law" = some (.ref fa)) (hnm : My.TabOf "_sorted_by_key" mg h)
    {e_MajordomoError : Addr} {e_StoreError : Addr} {e_BadTransaction : Addr} {C_Store : Addr} {f_ended : Addr} {od_ended an_ended : Option Addr} {sl_ended : Array (Option Value)} {oc_ended kV_ended dc_ended pm_ended cd_ended ct_ended : Value} {f_started : Addr} {od_started an_started : Option Addr} {sl_started : Array (Option Value)} {oc_started kV_started dc_started pm_started cd_started ct_started : Value} {f__next_life : Addr} {od__next_life an__next_life : Option Addr} {sl__next_life : Array (Option Value)} {oc__next_life kV__next_life dc__next_life pm__next_life cd__next_life ct__next_life : Value} {f_enroll_transaction : Addr} {od_enroll_transaction an_enroll_transaction : Option Addr} {sl_enroll_transaction : Array (Option Value)} {oc_enroll_transaction kV_enroll_transaction dc_enroll_transaction pm_enroll_transaction cd_enroll_transaction ct_enroll_transaction : Value} {f_beat_transaction : Addr} {od_beat_transaction an_beat_transaction : Option Addr} {sl_beat_transaction : Array (Option Value)} {oc_beat_transaction kV_beat_transaction dc_beat_transaction pm_beat_transaction cd_beat_transaction ct_beat_transaction : Value} {f_start_transaction : Addr} {od_start_transaction an_start_transaction : Option Addr} {sl_start_transaction : Array (Option Value)} {oc_start_transaction kV_start_transaction dc_start_transaction pm_start_transaction cd_start_transaction ct_start_transaction : Value} {f_end_transaction : Addr} {od_end_transaction an_end_transaction : Option Addr} {sl_end_transaction : Array (Option Value)} {oc_end_transaction kV_end_transaction dc_end_transaction pm_end_transaction cd_end_transaction ct_end_transaction : Value} {f_has_plain_characters : Addr} {od_has_plain_characters an_has_plain_characters : Option Addr} {sl_has_plain_characters : Array (Option Value)} {oc_has_plain_characters kV_has_plain_characters dc_has_plain_characters pm_has_plain_characters cd_has_plain_characters ct_has_plain_characters : Value} {f_is_integer_within : Addr} {od_is_integer_within an_is_integer_within : Option Addr} {sl_is_integer_within : Array (Option Value)} {oc_is_integer_within kV_is_integer_within dc_is_integer_within pm_is_integer_within cd_is_integer_within ct_is_integer_within : Value} {f_is_plain_name : Addr} {od_is_plain_name an_is_plain_name : Option Addr} {sl_is_plain_name : Array (Option Value)} {oc_is_plain_name kV_is_plain_name dc_is_plain_name pm_is_plain_name cd_is_plain_name ct_is_plain_name : Value} {f_is_slot_name : Addr} {od_is_slot_name an_is_slot_name : Option Addr} {sl_is_slot_name : Array (Option Value)} {oc_is_slot_name kV_is_slot_name dc_is_slot_name pm_is_slot_name cd_is_slot_name ct_is_slot_name : Value} {f_is_text : Addr} {od_is_text an_is_text : Option Addr} {sl_is_text : Array (Option Value)} {oc_is_text kV_is_text dc_is_text pm_is_text cd_is_text ct_is_text : Value} {f_is_count : Addr} {od_is_count an_is_count : Option Addr} {sl_is_count : Array (Option Value)} {oc_is_count kV_is_count dc_is_count pm_is_count cd_is_count ct_is_count : Value} {f_is_zone : Addr} {od_is_zone an_is_zone : Option Addr} {sl_is_zone : Array (Option Value)} {oc_is_zone kV_is_zone dc_is_zone pm_is_zone cd_is_zone ct_is_zone : Value} {f_is_key : Addr} {od_is_key an_is_key : Option Addr} {sl_is_key : Array (Option Value)} {oc_is_key kV_is_key dc_is_key pm_is_key cd_is_key ct_is_key : Value} {f__is_beat : Addr} {od__is_beat an__is_beat : Option Addr} {sl__is_beat : Array (Option Value)} {oc__is_beat kV__is_beat dc__is_beat pm__is_beat cd__is_beat ct__is_beat : Value} {f__is_drain : Addr} {od__is_drain an__is_drain : Option Addr} {sl__is_drain : Array (Option Value)} {oc__is_drain kV__is_drain dc__is_drain pm__is_drain cd__is_drain ct__is_drain : Value} {f__is_node : Addr} {od__is_node an__is_node : Option Addr} {sl__is_node : Array (Option Value)} {oc__is_node kV__is_node dc__is_node pm__is_node cd__is_node ct__is_node : Value} {f__is_note : Addr} {od__is_note an__is_note : Option Addr} {sl__is_note : Array (Option Value)} {oc__is_note kV__is_note dc__is_note pm__is_note cd__is_note ct__is_note : Value} {f__is_rollout : Addr} {od__is_rollout an__is_rollout : Option Addr} {sl__is_rollout : Array (Option Value)} {oc__is_rollout kV__is_rollout dc__is_rollout pm__is_rollout cd__is_rollout ct__is_rollout : Value} {f__are_open_numbers : Addr} {od__are_open_numbers an__are_open_numbers : Option Addr} {sl__are_open_numbers : Array (Option Value)} {oc__are_open_numbers kV__are_open_numbers dc__are_open_numbers pm__are_open_numbers cd__are_open_numbers ct__are_open_numbers : Value} {f__is_service : Addr} {od__is_service an__is_service : Option Addr} {sl__is_service : Array (Option Value)} {oc__is_service kV__is_service dc__is_service pm__is_service cd__is_service ct__is_service : Value} {f__is_task : Addr} {od__is_task an__is_task : Option Addr} {sl__is_task : Array (Option Value)} {oc__is_task kV__is_task dc__is_task pm__is_task cd__is_task ct__is_task : Value} {f_is_object : Addr} {od_is_object an_is_object : Option Addr} {sl_is_object : Array (Option Value)} {oc_is_object kV_is_object dc_is_object pm_is_object cd_is_object ct_is_object : Value} {f__is_tuple_of : Addr} {od__is_tuple_of an__is_tuple_of : Option Addr} {sl__is_tuple_of : Array (Option Value)} {oc__is_tuple_of kV__is_tuple_of dc__is_tuple_of pm__is_tuple_of cd__is_tuple_of ct__is_tuple_of : Value} {f__is_condition : Addr} {od__is_condition an__is_condition : Option Addr} {sl__is_condition : Array (Option Value)} {oc__is_condition kV__is_condition dc__is_condition pm__is_condition cd__is_condition ct__is_condition : Value} {f__is_put : Addr} {od__is_put an__is_put : Option Addr} {sl__is_put : Array (Option Value)} {oc__is_put kV__is_put dc__is_put pm__is_put cd__is_put ct__is_put : Value} {f__is_delete : Addr} {od__is_delete an__is_delete : Option Addr} {sl__is_delete : Array (Option Value)} {oc__is_delete kV__is_delete dc__is_delete pm__is_delete cd__is_delete ct__is_delete : Value} {f__are_distinct : Addr} {od__are_distinct an__are_distinct : Option Addr} {sl__are_distinct : Array (Option Value)} {oc__are_distinct kV__are_distinct dc__are_distinct pm__are_distinct cd__are_distinct ct__are_distinct : Value} {f_check_transaction : Addr} {od_check_transaction an_check_transaction : Option Addr} {sl_check_transaction : Array (Option Value)} {oc_check_transaction kV_check_transaction dc_check_transaction pm_check_transaction cd_check_transaction ct_check_transaction : Value} {f__sorted_by_key : Addr} {od__sorted_by_key an__sorted_by_key : Option Addr} {sl__sorted_by_key : Array (Option Value)} {oc__sorted_by_key kV__sorted_by_key dc__sorted_by_key pm__sorted_by_key cd__sorted_by_key ct__sorted_by_key : Value} {cc__sorted_by_key pp__sorted_by_key : Addr} {ce__sorted_by_key : Value} {ci__sorted_by_key : Option Addr} {cw__sorted_by_key : Array Value} {cx__sorted_by_key : Array (Option Value)} {f_Store___init__ : Addr} {od_Store___init__ an_Store___init__ : Option Addr} {sl_Store___init__ : Array (Option Value)} {oc_Store___init__ kV_Store___init__ dc_Store___init__ pm_Store___init__ cd_Store___init__ ct_Store___init__ : Value} {f_Store_entry : Addr} {od_Store_entry an_Store_entry : Option Addr} {sl_Store_entry : Array (Option Value)} {oc_Store_entry kV_Store_entry dc_Store_entry pm_Store_entry cd_Store_entry ct_Store_entry : Value} {f_Store_entries : Addr} {od_Store_entries an_Store_entries : Option Addr} {sl_Store_entries : Array (Option Value)} {oc_Store_entries kV_Store_entries dc_Store_entries pm_Store_entries cd_Store_entries ct_Store_entries : Value} {f_Store_apply : Addr} {od_Store_apply an_Store_apply : Option Addr} {sl_Store_apply : Array (Option Value)} {oc_Store_apply kV_Store_apply dc_Store_apply pm_Store_apply cd_Store_apply ct_Store_apply : Value} {f_Store__holds : Addr} {od_Store__holds an_Store__holds : Option Addr} {sl_Store__holds : Array (Option Value)} {oc_Store__holds kV_Store__holds dc_Store__holds pm_Store__holds cd_Store__holds ct_Store__holds : Value} {f_Store__change : Addr} {od_Store__change an_Store__change : Option Addr} {sl_Store__change : Array (Option Value)} {oc_Store__change kV_Store__change dc_Store__change pm_Store__change cd_Store__change ct_Store__change : Value} {f__law_number : Addr} {od__law_number an__law_number : Option Addr} {sl__law_number : Array (Option Value)} {oc__law_number kV__law_number dc__law_number pm__law_number cd__law_number ct__law_number : Value} {f__law_digits : Addr} {od__law_digits an__law_digits : Option Addr} {sl__law_digits : Array (Option Value)} {oc__law_digits kV__law_digits dc__law_digits pm__law_digits cd__law_digits ct__law_digits : Value} {f__law_fill : Addr} {od__law_fill an__law_fill : Option Addr} {sl__law_fill : Array (Option Value)} {oc__law_fill kV__law_fill dc__law_fill pm__law_fill cd__law_fill ct__law_fill : Value} {f__law_bind : Addr} {od__law_bind an__law_bind : Option Addr} {sl__law_bind : Array (Option Value)} {oc__law_bind kV__law_bind dc__law_bind pm__law_bind cd__law_bind ct__law_bind : Value} {f__law_refused : Addr} {od__law_refused an__law_refused : Option Addr} {sl__law_refused : Array (Option Value)} {oc__law_refused kV__law_refused dc__law_refused pm__law_refused cd__law_refused ct__law_refused : Value} {f__law_enroll : Addr} {od__law_enroll an__law_enroll : Option Addr} {sl__law_enroll : Array (Option Value)} {oc__law_enroll kV__law_enroll dc__law_enroll pm__law_enroll cd__law_enroll ct__law_enroll : Value} {f__law_beat : Addr} {od__law_beat an__law_beat : Option Addr} {sl__law_beat : Array (Option Value)} {oc__law_beat kV__law_beat dc__law_beat pm__law_beat cd__law_beat ct__law_beat : Value} {f__law_start : Addr} {od__law_start an__law_start : Option Addr} {sl__law_start : Array (Option Value)} {oc__law_start kV__law_start dc__law_start pm__law_start cd__law_start ct__law_start : Value} {f__law_end : Addr} {od__law_end an__law_end : Option Addr} {sl__law_end : Array (Option Value)} {oc__law_end kV__law_end dc__law_end pm__law_end cd__law_end ct__law_end : Value} {f__law_good : Addr} {od__law_good an__law_good : Option Addr} {sl__law_good : Array (Option Value)} {oc__law_good kV__law_good dc__law_good pm__law_good cd__law_good ct__law_good : Value} {f__law_deed : Addr} {od__law_deed an__law_deed : Option Addr} {sl__law_deed : Array (Option Value)} {oc__law_deed kV__law_deed dc__law_deed pm__law_deed cd__law_deed ct__law_deed : Value} {f_law : Addr} {od_law an_law : Option Addr} {sl_law : Array (Option Value)} {oc_law kV_law dc_law pm_law cd_law ct_law : Value} {t_SIZE : Tok} {t_STATE : Tok} {t_SPACE : Tok} {t_PERCENT : Tok} {t_TILDE : Tok} {t_DIGITS : Tok} {ca_KINDS : Addr} {cd0_KINDS : Option Addr} {cn_KINDS : Nat} {cs_KINDS : Array (Option Value)} {cv_KINDS : List Value} {ca_STATES : Addr} {cd0_STATES : Option Addr} {cn_STATES : Nat} {cs_STATES : Array (Option Value)} {cv_STATES : List Value} {t_NAME_CHARACTERS : Tok} {t_MOST_NAME : Tok} {t_MOST_TEXT : Tok} {t_MOST_COUNT : Tok} {t_MOST_NUMBER : Tok} {t_MOST_MEMBERS : Tok} {ca_VALUE_FORMS : Addr} {ce_VALUE_FORMS : Array DictEntry} {cn_VALUE_FORMS : Nat}
    (g_MajordomoError : PySem.W.nsIn K mainGlobals "MajordomoError" = some (some (.ref e_MajordomoError)))
    (x_MajordomoError : PySem.W.excIn K e_MajordomoError [.type "ValueError", .type "Exception", .type "BaseException", .type "object"] "ValueError.__new__" = true)
    (k_MajordomoError : PySem.W.keepIn K (.ref e_MajordomoError) = true)
    (s_MajordomoError : PySem.W.subIn K (.ref e_MajordomoError) (.type "BaseException") = some true)
    (t_MajordomoError : PySem.W.typeIn K (.ref e_MajordomoError) = some (.type "type"))
    (g_StoreError : PySem.W.nsIn K mainGlobals "StoreError" = some (some (.ref e_StoreError)))
    (x_StoreError : PySem.W.excIn K e_StoreError [.type "ValueError", .type "Exception", .type "BaseException", .type "object"] "ValueError.__new__" = true)
    (k_StoreError : PySem.W.keepIn K (.ref e_StoreError) = true)
    (s_StoreError : PySem.W.subIn K (.ref e_StoreError) (.type "BaseException") = some true)
    (t_StoreError : PySem.W.typeIn K (.ref e_StoreError) = some (.type "type"))
    (g_BadTransaction : PySem.W.nsIn K mainGlobals "BadTransaction" = some (some (.ref e_BadTransaction)))
    (x_BadTransaction : PySem.W.excIn K e_BadTransaction [.type "ValueError", .type "Exception", .type "BaseException", .type "object"] "ValueError.__new__" = true)
    (k_BadTransaction : PySem.W.keepIn K (.ref e_BadTransaction) = true)
    (s_BadTransaction : PySem.W.subIn K (.ref e_BadTransaction) (.type "BaseException") = some true)
    (t_BadTransaction : PySem.W.typeIn K (.ref e_BadTransaction) = some (.type "type"))
    (g_ended : PySem.W.nsIn K mainGlobals "ended" = some (some (.ref f_ended)))
    (l_ended : K.lookup f_ended = some ⟨oc_ended, od_ended, .func (PySem.W.fnOf "ended" "ended" (defArgs s_ended) (defBody s_ended) (defScope s_ended) .none kV_ended dc_ended pm_ended an_ended cd_ended ct_ended), sl_ended⟩)
    (c_ended : PySem.W.codeIn K cd_ended "ended" = true)
    (k_ended : PySem.W.keepIn K (.ref f_ended) = true)
    (g_started : PySem.W.nsIn K mainGlobals "started" = some (some (.ref f_started)))
    (l_started : K.lookup f_started = some ⟨oc_started, od_started, .func (PySem.W.fnOf "started" "started" (defArgs s_started) (defBody s_started) (defScope s_started) .none kV_started dc_started pm_started an_started cd_started ct_started), sl_started⟩)
    (c_started : PySem.W.codeIn K cd_started "started" = true)
    (k_started : PySem.W.keepIn K (.ref f_started) = true)
    (g__next_life : PySem.W.nsIn K mainGlobals "_next_life" = some (some (.ref f__next_life)))
    (l__next_life : K.lookup f__next_life = some ⟨oc__next_life, od__next_life, .func (PySem.W.fnOf "_next_life" "_next_life" (defArgs s__next_life) (defBody s__next_life) (defScope s__next_life) .none kV__next_life dc__next_life pm__next_life an__next_life cd__next_life ct__next_life), sl__next_life⟩)
    (c__next_life : PySem.W.codeIn K cd__next_life "_next_life" = true)
    (k__next_life : PySem.W.keepIn K (.ref f__next_life) = true)
    (g_enroll_transaction : PySem.W.nsIn K mainGlobals "enroll_transaction" = some (some (.ref f_enroll_transaction)))
    (l_enroll_transaction : K.lookup f_enroll_transaction = some ⟨oc_enroll_transaction, od_enroll_transaction, .func (PySem.W.fnOf "enroll_transaction" "enroll_transaction" (defArgs s_enroll_transaction) (defBody s_enroll_transaction) (defScope s_enroll_transaction) .none kV_enroll_transaction dc_enroll_transaction pm_enroll_transaction an_enroll_transaction cd_enroll_transaction ct_enroll_transaction), sl_enroll_transaction⟩)
    (c_enroll_transaction : PySem.W.codeIn K cd_enroll_transaction "enroll_transaction" = true)
    (k_enroll_transaction : PySem.W.keepIn K (.ref f_enroll_transaction) = true)
    (g_beat_transaction : PySem.W.nsIn K mainGlobals "beat_transaction" = some (some (.ref f_beat_transaction)))
    (l_beat_transaction : K.lookup f_beat_transaction = some ⟨oc_beat_transaction, od_beat_transaction, .func (PySem.W.fnOf "beat_transaction" "beat_transaction" (defArgs s_beat_transaction) (defBody s_beat_transaction) (defScope s_beat_transaction) .none kV_beat_transaction dc_beat_transaction pm_beat_transaction an_beat_transaction cd_beat_transaction ct_beat_transaction), sl_beat_transaction⟩)
    (c_beat_transaction : PySem.W.codeIn K cd_beat_transaction "beat_transaction" = true)
    (k_beat_transaction : PySem.W.keepIn K (.ref f_beat_transaction) = true)
    (g_start_transaction : PySem.W.nsIn K mainGlobals "start_transaction" = some (some (.ref f_start_transaction)))
    (l_start_transaction : K.lookup f_start_transaction = some ⟨oc_start_transaction, od_start_transaction, .func (PySem.W.fnOf "start_transaction" "start_transaction" (defArgs s_start_transaction) (defBody s_start_transaction) (defScope s_start_transaction) .none kV_start_transaction dc_start_transaction pm_start_transaction an_start_transaction cd_start_transaction ct_start_transaction), sl_start_transaction⟩)
    (c_start_transaction : PySem.W.codeIn K cd_start_transaction "start_transaction" = true)
    (k_start_transaction : PySem.W.keepIn K (.ref f_start_transaction) = true)
    (g_end_transaction : PySem.W.nsIn K mainGlobals "end_transaction" = some (some (.ref f_end_transaction)))
    (l_end_transaction : K.lookup f_end_transaction = some ⟨oc_end_transaction, od_end_transaction, .func (PySem.W.fnOf "end_transaction" "end_transaction" (defArgs s_end_transaction) (defBody s_end_transaction) (defScope s_end_transaction) .none kV_end_transaction dc_end_transaction pm_end_transaction an_end_transaction cd_end_transaction ct_end_transaction), sl_end_transaction⟩)
    (c_end_transaction : PySem.W.codeIn K cd_end_transaction "end_transaction" = true)
    (k_end_transaction : PySem.W.keepIn K (.ref f_end_transaction) = true)
    (g_has_plain_characters : PySem.W.nsIn K mainGlobals "has_plain_characters" = some (some (.ref f_has_plain_characters)))
    (l_has_plain_characters : K.lookup f_has_plain_characters = some ⟨oc_has_plain_characters, od_has_plain_characters, .func (PySem.W.fnOf "has_plain_characters" "has_plain_characters" (defArgs s_has_plain_characters) (defBody s_has_plain_characters) (defScope s_has_plain_characters) .none kV_has_plain_characters dc_has_plain_characters pm_has_plain_characters an_has_plain_characters cd_has_plain_characters ct_has_plain_characters), sl_has_plain_characters⟩)
    (c_has_plain_characters : PySem.W.codeIn K cd_has_plain_characters "has_plain_characters" = true)
    (k_has_plain_characters : PySem.W.keepIn K (.ref f_has_plain_characters) = true)
    (g_is_integer_within : PySem.W.nsIn K mainGlobals "is_integer_within" = some (some (.ref f_is_integer_within)))
    (l_is_integer_within : K.lookup f_is_integer_within = some ⟨oc_is_integer_within, od_is_integer_within, .func (PySem.W.fnOf "is_integer_within" "is_integer_within" (defArgs s_is_integer_within) (defBody s_is_integer_within) (defScope s_is_integer_within) .none kV_is_integer_within dc_is_integer_within pm_is_integer_within an_is_integer_within cd_is_integer_within ct_is_integer_within), sl_is_integer_within⟩)
    (c_is_integer_within : PySem.W.codeIn K cd_is_integer_within "is_integer_within" = true)
    (k_is_integer_within : PySem.W.keepIn K (.ref f_is_integer_within) = true)
    (g_is_plain_name : PySem.W.nsIn K mainGlobals "is_plain_name" = some (some (.ref f_is_plain_name)))
    (l_is_plain_name : K.lookup f_is_plain_name = some ⟨oc_is_plain_name, od_is_plain_name, .func (PySem.W.fnOf "is_plain_name" "is_plain_name" (defArgs s_is_plain_name) (defBody s_is_plain_name) (defScope s_is_plain_name) .none kV_is_plain_name dc_is_plain_name pm_is_plain_name an_is_plain_name cd_is_plain_name ct_is_plain_name), sl_is_plain_name⟩)
    (c_is_plain_name : PySem.W.codeIn K cd_is_plain_name "is_plain_name" = true)
    (k_is_plain_name : PySem.W.keepIn K (.ref f_is_plain_name) = true)
    (g_is_slot_name : PySem.W.nsIn K mainGlobals "is_slot_name" = some (some (.ref f_is_slot_name)))
    (l_is_slot_name : K.lookup f_is_slot_name = some ⟨oc_is_slot_name, od_is_slot_name, .func (PySem.W.fnOf "is_slot_name" "is_slot_name" (defArgs s_is_slot_name) (defBody s_is_slot_name) (defScope s_is_slot_name) .none kV_is_slot_name dc_is_slot_name pm_is_slot_name an_is_slot_name cd_is_slot_name ct_is_slot_name), sl_is_slot_name⟩)
    (c_is_slot_name : PySem.W.codeIn K cd_is_slot_name "is_slot_name" = true)
    (k_is_slot_name : PySem.W.keepIn K (.ref f_is_slot_name) = true)
    (g_is_text : PySem.W.nsIn K mainGlobals "is_text" = some (some (.ref f_is_text)))
    (l_is_text : K.lookup f_is_text = some ⟨oc_is_text, od_is_text, .func (PySem.W.fnOf "is_text" "is_text" (defArgs s_is_text) (defBody s_is_text) (defScope s_is_text) .none kV_is_text dc_is_text pm_is_text an_is_text cd_is_text ct_is_text), sl_is_text⟩)
    (c_is_text : PySem.W.codeIn K cd_is_text "is_text" = true)
    (k_is_text : PySem.W.keepIn K (.ref f_is_text) = true)
    (g_is_count : PySem.W.nsIn K mainGlobals "is_count" = some (some (.ref f_is_count)))
    (l_is_count : K.lookup f_is_count = some ⟨oc_is_count, od_is_count, .func (PySem.W.fnOf "is_count" "is_count" (defArgs s_is_count) (defBody s_is_count) (defScope s_is_count) .none kV_is_count dc_is_count pm_is_count an_is_count cd_is_count ct_is_count), sl_is_count⟩)
    (c_is_count : PySem.W.codeIn K cd_is_count "is_count" = true)
    (k_is_count : PySem.W.keepIn K (.ref f_is_count) = true)
    (g_is_zone : PySem.W.nsIn K mainGlobals "is_zone" = some (some (.ref f_is_zone)))
    (l_is_zone : K.lookup f_is_zone = some ⟨oc_is_zone, od_is_zone, .func (PySem.W.fnOf "is_zone" "is_zone" (defArgs s_is_zone) (defBody s_is_zone) (defScope s_is_zone) .none kV_is_zone dc_is_zone pm_is_zone an_is_zone cd_is_zone ct_is_zone), sl_is_zone⟩)
    (c_is_zone : PySem.W.codeIn K cd_is_zone "is_zone" = true)
    (k_is_zone : PySem.W.keepIn K (.ref f_is_zone) = true)
    (g_is_key : PySem.W.nsIn K mainGlobals "is_key" = some (some (.ref f_is_key)))
    (l_is_key : K.lookup f_is_key = some ⟨oc_is_key, od_is_key, .func (PySem.W.fnOf "is_key" "is_key" (defArgs s_is_key) (defBody s_is_key) (defScope s_is_key) .none kV_is_key dc_is_key pm_is_key an_is_key cd_is_key ct_is_key), sl_is_key⟩)
    (c_is_key : PySem.W.codeIn K cd_is_key "is_key" = true)
    (k_is_key : PySem.W.keepIn K (.ref f_is_key) = true)
    (g__is_beat : PySem.W.nsIn K mainGlobals "_is_beat" = some (some (.ref f__is_beat)))
    (l__is_beat : K.lookup f__is_beat = some ⟨oc__is_beat, od__is_beat, .func (PySem.W.fnOf "_is_beat" "_is_beat" (defArgs s__is_beat) (defBody s__is_beat) (defScope s__is_beat) .none kV__is_beat dc__is_beat pm__is_beat an__is_beat cd__is_beat ct__is_beat), sl__is_beat⟩)
    (c__is_beat : PySem.W.codeIn K cd__is_beat "_is_beat" = true)
    (k__is_beat : PySem.W.keepIn K (.ref f__is_beat) = true)
    (g__is_drain : PySem.W.nsIn K mainGlobals "_is_drain" = some (some (.ref f__is_drain)))
    (l__is_drain : K.lookup f__is_drain = some ⟨oc__is_drain, od__is_drain, .func (PySem.W.fnOf "_is_drain" "_is_drain" (defArgs s__is_drain) (defBody s__is_drain) (defScope s__is_drain) .none kV__is_drain dc__is_drain pm__is_drain an__is_drain cd__is_drain ct__is_drain), sl__is_drain⟩)
    (c__is_drain : PySem.W.codeIn K cd__is_drain "_is_drain" = true)
    (k__is_drain : PySem.W.keepIn K (.ref f__is_drain) = true)
    (g__is_node : PySem.W.nsIn K mainGlobals "_is_node" = some (some (.ref f__is_node)))
    (l__is_node : K.lookup f__is_node = some ⟨oc__is_node, od__is_node, .func (PySem.W.fnOf "_is_node" "_is_node" (defArgs s__is_node) (defBody s__is_node) (defScope s__is_node) .none kV__is_node dc__is_node pm__is_node an__is_node cd__is_node ct__is_node), sl__is_node⟩)
    (c__is_node : PySem.W.codeIn K cd__is_node "_is_node" = true)
    (k__is_node : PySem.W.keepIn K (.ref f__is_node) = true)
    (g__is_note : PySem.W.nsIn K mainGlobals "_is_note" = some (some (.ref f__is_note)))
    (l__is_note : K.lookup f__is_note = some ⟨oc__is_note, od__is_note, .func (PySem.W.fnOf "_is_note" "_is_note" (defArgs s__is_note) (defBody s__is_note) (defScope s__is_note) .none kV__is_note dc__is_note pm__is_note an__is_note cd__is_note ct__is_note), sl__is_note⟩)
    (c__is_note : PySem.W.codeIn K cd__is_note "_is_note" = true)
    (k__is_note : PySem.W.keepIn K (.ref f__is_note) = true)
    (g__is_rollout : PySem.W.nsIn K mainGlobals "_is_rollout" = some (some (.ref f__is_rollout)))
    (l__is_rollout : K.lookup f__is_rollout = some ⟨oc__is_rollout, od__is_rollout, .func (PySem.W.fnOf "_is_rollout" "_is_rollout" (defArgs s__is_rollout) (defBody s__is_rollout) (defScope s__is_rollout) .none kV__is_rollout dc__is_rollout pm__is_rollout an__is_rollout cd__is_rollout ct__is_rollout), sl__is_rollout⟩)
    (c__is_rollout : PySem.W.codeIn K cd__is_rollout "_is_rollout" = true)
    (k__is_rollout : PySem.W.keepIn K (.ref f__is_rollout) = true)
    (g__are_open_numbers : PySem.W.nsIn K mainGlobals "_are_open_numbers" = some (some (.ref f__are_open_numbers)))
    (l__are_open_numbers : K.lookup f__are_open_numbers = some ⟨oc__are_open_numbers, od__are_open_numbers, .func (PySem.W.fnOf "_are_open_numbers" "_are_open_numbers" (defArgs s__are_open_numbers) (defBody s__are_open_numbers) (defScope s__are_open_numbers) .none kV__are_open_numbers dc__are_open_numbers pm__are_open_numbers an__are_open_numbers cd__are_open_numbers ct__are_open_numbers), sl__are_open_numbers⟩)
    (c__are_open_numbers : PySem.W.codeIn K cd__are_open_numbers "_are_open_numbers" = true)
    (k__are_open_numbers : PySem.W.keepIn K (.ref f__are_open_numbers) = true)
    (g__is_service : PySem.W.nsIn K mainGlobals "_is_service" = some (some (.ref f__is_service)))
    (l__is_service : K.lookup f__is_service = some ⟨oc__is_service, od__is_service, .func (PySem.W.fnOf "_is_service" "_is_service" (defArgs s__is_service) (defBody s__is_service) (defScope s__is_service) .none kV__is_service dc__is_service pm__is_service an__is_service cd__is_service ct__is_service), sl__is_service⟩)
    (c__is_service : PySem.W.codeIn K cd__is_service "_is_service" = true)
    (k__is_service : PySem.W.keepIn K (.ref f__is_service) = true)
    (g__is_task : PySem.W.nsIn K mainGlobals "_is_task" = some (some (.ref f__is_task)))
    (l__is_task : K.lookup f__is_task = some ⟨oc__is_task, od__is_task, .func (PySem.W.fnOf "_is_task" "_is_task" (defArgs s__is_task) (defBody s__is_task) (defScope s__is_task) .none kV__is_task dc__is_task pm__is_task an__is_task cd__is_task ct__is_task), sl__is_task⟩)
    (c__is_task : PySem.W.codeIn K cd__is_task "_is_task" = true)
    (k__is_task : PySem.W.keepIn K (.ref f__is_task) = true)
    (g_is_object : PySem.W.nsIn K mainGlobals "is_object" = some (some (.ref f_is_object)))
    (l_is_object : K.lookup f_is_object = some ⟨oc_is_object, od_is_object, .func (PySem.W.fnOf "is_object" "is_object" (defArgs s_is_object) (defBody s_is_object) (defScope s_is_object) .none kV_is_object dc_is_object pm_is_object an_is_object cd_is_object ct_is_object), sl_is_object⟩)
    (c_is_object : PySem.W.codeIn K cd_is_object "is_object" = true)
    (k_is_object : PySem.W.keepIn K (.ref f_is_object) = true)
    (g__is_tuple_of : PySem.W.nsIn K mainGlobals "_is_tuple_of" = some (some (.ref f__is_tuple_of)))
    (l__is_tuple_of : K.lookup f__is_tuple_of = some ⟨oc__is_tuple_of, od__is_tuple_of, .func (PySem.W.fnOf "_is_tuple_of" "_is_tuple_of" (defArgs s__is_tuple_of) (defBody s__is_tuple_of) (defScope s__is_tuple_of) .none kV__is_tuple_of dc__is_tuple_of pm__is_tuple_of an__is_tuple_of cd__is_tuple_of ct__is_tuple_of), sl__is_tuple_of⟩)
    (c__is_tuple_of : PySem.W.codeIn K cd__is_tuple_of "_is_tuple_of" = true)
    (k__is_tuple_of : PySem.W.keepIn K (.ref f__is_tuple_of) = true)
    (g__is_condition : PySem.W.nsIn K mainGlobals "_is_condition" = some (some (.ref f__is_condition)))
    (l__is_condition : K.lookup f__is_condition = some ⟨oc__is_condition, od__is_condition, .func (PySem.W.fnOf "_is_condition" "_is_condition" (defArgs s__is_condition) (defBody s__is_condition) (defScope s__is_condition) .none kV__is_condition dc__is_condition pm__is_condition an__is_condition cd__is_condition ct__is_condition), sl__is_condition⟩)
    (c__is_condition : PySem.W.codeIn K cd__is_condition "_is_condition" = true)
    (k__is_condition : PySem.W.keepIn K (.ref f__is_condition) = true)
    (g__is_put : PySem.W.nsIn K mainGlobals "_is_put" = some (some (.ref f__is_put)))
    (l__is_put : K.lookup f__is_put = some ⟨oc__is_put, od__is_put, .func (PySem.W.fnOf "_is_put" "_is_put" (defArgs s__is_put) (defBody s__is_put) (defScope s__is_put) .none kV__is_put dc__is_put pm__is_put an__is_put cd__is_put ct__is_put), sl__is_put⟩)
    (c__is_put : PySem.W.codeIn K cd__is_put "_is_put" = true)
    (k__is_put : PySem.W.keepIn K (.ref f__is_put) = true)
    (g__is_delete : PySem.W.nsIn K mainGlobals "_is_delete" = some (some (.ref f__is_delete)))
    (l__is_delete : K.lookup f__is_delete = some ⟨oc__is_delete, od__is_delete, .func (PySem.W.fnOf "_is_delete" "_is_delete" (defArgs s__is_delete) (defBody s__is_delete) (defScope s__is_delete) .none kV__is_delete dc__is_delete pm__is_delete an__is_delete cd__is_delete ct__is_delete), sl__is_delete⟩)
    (c__is_delete : PySem.W.codeIn K cd__is_delete "_is_delete" = true)
    (k__is_delete : PySem.W.keepIn K (.ref f__is_delete) = true)
    (g__are_distinct : PySem.W.nsIn K mainGlobals "_are_distinct" = some (some (.ref f__are_distinct)))
    (l__are_distinct : K.lookup f__are_distinct = some ⟨oc__are_distinct, od__are_distinct, .func (PySem.W.fnOf "_are_distinct" "_are_distinct" (defArgs s__are_distinct) (defBody s__are_distinct) (defScope s__are_distinct) .none kV__are_distinct dc__are_distinct pm__are_distinct an__are_distinct cd__are_distinct ct__are_distinct), sl__are_distinct⟩)
    (c__are_distinct : PySem.W.codeIn K cd__are_distinct "_are_distinct" = true)
    (k__are_distinct : PySem.W.keepIn K (.ref f__are_distinct) = true)
    (g_check_transaction : PySem.W.nsIn K mainGlobals "check_transaction" = some (some (.ref f_check_transaction)))
    (l_check_transaction : K.lookup f_check_transaction = some ⟨oc_check_transaction, od_check_transaction, .func (PySem.W.fnOf "check_transaction" "check_transaction" (defArgs s_check_transaction) (defBody s_check_transaction) (defScope s_check_transaction) .none kV_check_transaction dc_check_transaction pm_check_transaction an_check_transaction cd_check_transaction ct_check_transaction), sl_check_transaction⟩)
    (c_check_transaction : PySem.W.codeIn K cd_check_transaction "check_transaction" = true)
    (k_check_transaction : PySem.W.keepIn K (.ref f_check_transaction) = true)
    (g__sorted_by_key : PySem.W.nsIn K mainGlobals "_sorted_by_key" = some (some (.ref f__sorted_by_key)))
    (l__sorted_by_key : K.lookup f__sorted_by_key = some ⟨oc__sorted_by_key, od__sorted_by_key, .func (PySem.W.fnOf "_sorted_by_key" "_sorted_by_key" (defArgs s__sorted_by_key) (defBody s__sorted_by_key) (defScope s__sorted_by_key) .none kV__sorted_by_key dc__sorted_by_key pm__sorted_by_key an__sorted_by_key cd__sorted_by_key ct__sorted_by_key), sl__sorted_by_key⟩)
    (c__sorted_by_key : PySem.W.codeIn K cd__sorted_by_key "_sorted_by_key" = true)
    (k__sorted_by_key : PySem.W.keepIn K (.ref f__sorted_by_key) = true)
    (hc__sorted_by_key : cd__sorted_by_key = .ref cc__sorted_by_key)
    (lc__sorted_by_key : K.lookup cc__sorted_by_key = some ⟨ce__sorted_by_key, ci__sorted_by_key, .fields cw__sorted_by_key, cx__sorted_by_key⟩)
    (lv__sorted_by_key : cw__sorted_by_key[11]? = some (.ref pp__sorted_by_key))
    (np__sorted_by_key : K.lookup pp__sorted_by_key = none)
    (gc_Store : PySem.W.nsIn K mainGlobals "Store" = some (some (.ref C_Store)))
    (m_Store___init__ : PySem.W.findIn K (.ref C_Store) "__init__" = some (some (.ref f_Store___init__)))
    (i_Store___init__ : PySem.W.isFn K (.ref f_Store___init__) = true)
    (l_Store___init__ : K.lookup f_Store___init__ = some ⟨oc_Store___init__, od_Store___init__, .func (PySem.W.fnOf "__init__" "Store.__init__" (defArgs s_Store___init__) (defBody s_Store___init__) (defScope s_Store___init__) .none kV_Store___init__ dc_Store___init__ pm_Store___init__ an_Store___init__ cd_Store___init__ ct_Store___init__), sl_Store___init__⟩)
    (c_Store___init__ : PySem.W.codeIn K cd_Store___init__ "Store.__init__" = true)
    (k_Store___init__ : PySem.W.keepIn K (.ref f_Store___init__) = true)
    (m_Store_entry : PySem.W.findIn K (.ref C_Store) "entry" = some (some (.ref f_Store_entry)))
    (i_Store_entry : PySem.W.isFn K (.ref f_Store_entry) = true)
    (l_Store_entry : K.lookup f_Store_entry = some ⟨oc_Store_entry, od_Store_entry, .func (PySem.W.fnOf "entry" "Store.entry" (defArgs s_Store_entry) (defBody s_Store_entry) (defScope s_Store_entry) .none kV_Store_entry dc_Store_entry pm_Store_entry an_Store_entry cd_Store_entry ct_Store_entry), sl_Store_entry⟩)
    (c_Store_entry : PySem.W.codeIn K cd_Store_entry "Store.entry" = true)
    (k_Store_entry : PySem.W.keepIn K (.ref f_Store_entry) = true)
    (m_Store_entries : PySem.W.findIn K (.ref C_Store) "entries" = some (some (.ref f_Store_entries)))
    (i_Store_entries : PySem.W.isFn K (.ref f_Store_entries) = true)
    (l_Store_entries : K.lookup f_Store_entries = some ⟨oc_Store_entries, od_Store_entries, .func (PySem.W.fnOf "entries" "Store.entries" (defArgs s_Store_entries) (defBody s_Store_entries) (defScope s_Store_entries) .none kV_Store_entries dc_Store_entries pm_Store_entries an_Store_entries cd_Store_entries ct_Store_entries), sl_Store_entries⟩)
    (c_Store_entries : PySem.W.codeIn K cd_Store_entries "Store.entries" = true)
    (k_Store_entries : PySem.W.keepIn K (.ref f_Store_entries) = true)
    (m_Store_apply : PySem.W.findIn K (.ref C_Store) "apply" = some (some (.ref f_Store_apply)))
    (i_Store_apply : PySem.W.isFn K (.ref f_Store_apply) = true)
    (l_Store_apply : K.lookup f_Store_apply = some ⟨oc_Store_apply, od_Store_apply, .func (PySem.W.fnOf "apply" "Store.apply" (defArgs s_Store_apply) (defBody s_Store_apply) (defScope s_Store_apply) .none kV_Store_apply dc_Store_apply pm_Store_apply an_Store_apply cd_Store_apply ct_Store_apply), sl_Store_apply⟩)
    (c_Store_apply : PySem.W.codeIn K cd_Store_apply "Store.apply" = true)
    (k_Store_apply : PySem.W.keepIn K (.ref f_Store_apply) = true)
    (m_Store__holds : PySem.W.findIn K (.ref C_Store) "_holds" = some (some (.ref f_Store__holds)))
    (i_Store__holds : PySem.W.isFn K (.ref f_Store__holds) = true)
    (l_Store__holds : K.lookup f_Store__holds = some ⟨oc_Store__holds, od_Store__holds, .func (PySem.W.fnOf "_holds" "Store._holds" (defArgs s_Store__holds) (defBody s_Store__holds) (defScope s_Store__holds) .none kV_Store__holds dc_Store__holds pm_Store__holds an_Store__holds cd_Store__holds ct_Store__holds), sl_Store__holds⟩)
    (c_Store__holds : PySem.W.codeIn K cd_Store__holds "Store._holds" = true)
    (k_Store__holds : PySem.W.keepIn K (.ref f_Store__holds) = true)
    (m_Store__change : PySem.W.findIn K (.ref C_Store) "_change" = some (some (.ref f_Store__change)))
    (i_Store__change : PySem.W.isFn K (.ref f_Store__change) = true)
    (l_Store__change : K.lookup f_Store__change = some ⟨oc_Store__change, od_Store__change, .func (PySem.W.fnOf "_change" "Store._change" (defArgs s_Store__change) (defBody s_Store__change) (defScope s_Store__change) .none kV_Store__change dc_Store__change pm_Store__change an_Store__change cd_Store__change ct_Store__change), sl_Store__change⟩)
    (c_Store__change : PySem.W.codeIn K cd_Store__change "Store._change" = true)
    (k_Store__change : PySem.W.keepIn K (.ref f_Store__change) = true)
    (g__law_number : PySem.W.nsIn K mainGlobals "_law_number" = some (some (.ref f__law_number)))
    (l__law_number : K.lookup f__law_number = some ⟨oc__law_number, od__law_number, .func (PySem.W.fnOf "_law_number" "_law_number" (defArgs s__law_number) (defBody s__law_number) (defScope s__law_number) .none kV__law_number dc__law_number pm__law_number an__law_number cd__law_number ct__law_number), sl__law_number⟩)
    (c__law_number : PySem.W.codeIn K cd__law_number "_law_number" = true)
    (k__law_number : PySem.W.keepIn K (.ref f__law_number) = true)
    (g__law_digits : PySem.W.nsIn K mainGlobals "_law_digits" = some (some (.ref f__law_digits)))
    (l__law_digits : K.lookup f__law_digits = some ⟨oc__law_digits, od__law_digits, .func (PySem.W.fnOf "_law_digits" "_law_digits" (defArgs s__law_digits) (defBody s__law_digits) (defScope s__law_digits) .none kV__law_digits dc__law_digits pm__law_digits an__law_digits cd__law_digits ct__law_digits), sl__law_digits⟩)
    (c__law_digits : PySem.W.codeIn K cd__law_digits "_law_digits" = true)
    (k__law_digits : PySem.W.keepIn K (.ref f__law_digits) = true)
    (g__law_fill : PySem.W.nsIn K mainGlobals "_law_fill" = some (some (.ref f__law_fill)))
    (l__law_fill : K.lookup f__law_fill = some ⟨oc__law_fill, od__law_fill, .func (PySem.W.fnOf "_law_fill" "_law_fill" (defArgs s__law_fill) (defBody s__law_fill) (defScope s__law_fill) .none kV__law_fill dc__law_fill pm__law_fill an__law_fill cd__law_fill ct__law_fill), sl__law_fill⟩)
    (c__law_fill : PySem.W.codeIn K cd__law_fill "_law_fill" = true)
    (k__law_fill : PySem.W.keepIn K (.ref f__law_fill) = true)
    (g__law_bind : PySem.W.nsIn K mainGlobals "_law_bind" = some (some (.ref f__law_bind)))
    (l__law_bind : K.lookup f__law_bind = some ⟨oc__law_bind, od__law_bind, .func (PySem.W.fnOf "_law_bind" "_law_bind" (defArgs s__law_bind) (defBody s__law_bind) (defScope s__law_bind) .none kV__law_bind dc__law_bind pm__law_bind an__law_bind cd__law_bind ct__law_bind), sl__law_bind⟩)
    (c__law_bind : PySem.W.codeIn K cd__law_bind "_law_bind" = true)
    (k__law_bind : PySem.W.keepIn K (.ref f__law_bind) = true)
    (g__law_refused : PySem.W.nsIn K mainGlobals "_law_refused" = some (some (.ref f__law_refused)))
    (l__law_refused : K.lookup f__law_refused = some ⟨oc__law_refused, od__law_refused, .func (PySem.W.fnOf "_law_refused" "_law_refused" (defArgs s__law_refused) (defBody s__law_refused) (defScope s__law_refused) .none kV__law_refused dc__law_refused pm__law_refused an__law_refused cd__law_refused ct__law_refused), sl__law_refused⟩)
    (c__law_refused : PySem.W.codeIn K cd__law_refused "_law_refused" = true)
    (k__law_refused : PySem.W.keepIn K (.ref f__law_refused) = true)
    (g__law_enroll : PySem.W.nsIn K mainGlobals "_law_enroll" = some (some (.ref f__law_enroll)))
    (l__law_enroll : K.lookup f__law_enroll = some ⟨oc__law_enroll, od__law_enroll, .func (PySem.W.fnOf "_law_enroll" "_law_enroll" (defArgs s__law_enroll) (defBody s__law_enroll) (defScope s__law_enroll) .none kV__law_enroll dc__law_enroll pm__law_enroll an__law_enroll cd__law_enroll ct__law_enroll), sl__law_enroll⟩)
    (c__law_enroll : PySem.W.codeIn K cd__law_enroll "_law_enroll" = true)
    (k__law_enroll : PySem.W.keepIn K (.ref f__law_enroll) = true)
    (g__law_beat : PySem.W.nsIn K mainGlobals "_law_beat" = some (some (.ref f__law_beat)))
    (l__law_beat : K.lookup f__law_beat = some ⟨oc__law_beat, od__law_beat, .func (PySem.W.fnOf "_law_beat" "_law_beat" (defArgs s__law_beat) (defBody s__law_beat) (defScope s__law_beat) .none kV__law_beat dc__law_beat pm__law_beat an__law_beat cd__law_beat ct__law_beat), sl__law_beat⟩)
    (c__law_beat : PySem.W.codeIn K cd__law_beat "_law_beat" = true)
    (k__law_beat : PySem.W.keepIn K (.ref f__law_beat) = true)
    (g__law_start : PySem.W.nsIn K mainGlobals "_law_start" = some (some (.ref f__law_start)))
    (l__law_start : K.lookup f__law_start = some ⟨oc__law_start, od__law_start, .func (PySem.W.fnOf "_law_start" "_law_start" (defArgs s__law_start) (defBody s__law_start) (defScope s__law_start) .none kV__law_start dc__law_start pm__law_start an__law_start cd__law_start ct__law_start), sl__law_start⟩)
    (c__law_start : PySem.W.codeIn K cd__law_start "_law_start" = true)
    (k__law_start : PySem.W.keepIn K (.ref f__law_start) = true)
    (g__law_end : PySem.W.nsIn K mainGlobals "_law_end" = some (some (.ref f__law_end)))
    (l__law_end : K.lookup f__law_end = some ⟨oc__law_end, od__law_end, .func (PySem.W.fnOf "_law_end" "_law_end" (defArgs s__law_end) (defBody s__law_end) (defScope s__law_end) .none kV__law_end dc__law_end pm__law_end an__law_end cd__law_end ct__law_end), sl__law_end⟩)
    (c__law_end : PySem.W.codeIn K cd__law_end "_law_end" = true)
    (k__law_end : PySem.W.keepIn K (.ref f__law_end) = true)
    (g__law_good : PySem.W.nsIn K mainGlobals "_law_good" = some (some (.ref f__law_good)))
    (l__law_good : K.lookup f__law_good = some ⟨oc__law_good, od__law_good, .func (PySem.W.fnOf "_law_good" "_law_good" (defArgs s__law_good) (defBody s__law_good) (defScope s__law_good) .none kV__law_good dc__law_good pm__law_good an__law_good cd__law_good ct__law_good), sl__law_good⟩)
    (c__law_good : PySem.W.codeIn K cd__law_good "_law_good" = true)
    (k__law_good : PySem.W.keepIn K (.ref f__law_good) = true)
    (g__law_deed : PySem.W.nsIn K mainGlobals "_law_deed" = some (some (.ref f__law_deed)))
    (l__law_deed : K.lookup f__law_deed = some ⟨oc__law_deed, od__law_deed, .func (PySem.W.fnOf "_law_deed" "_law_deed" (defArgs s__law_deed) (defBody s__law_deed) (defScope s__law_deed) .none kV__law_deed dc__law_deed pm__law_deed an__law_deed cd__law_deed ct__law_deed), sl__law_deed⟩)
    (c__law_deed : PySem.W.codeIn K cd__law_deed "_law_deed" = true)
    (k__law_deed : PySem.W.keepIn K (.ref f__law_deed) = true)
    (g_law : PySem.W.nsIn K mainGlobals "law" = some (some (.ref f_law)))
    (l_law : K.lookup f_law = some ⟨oc_law, od_law, .func (PySem.W.fnOf "law" "law" (defArgs s_law) (defBody s_law) (defScope s_law) .none kV_law dc_law pm_law an_law cd_law ct_law), sl_law⟩)
    (c_law : PySem.W.codeIn K cd_law "law" = true)
    (k_law : PySem.W.keepIn K (.ref f_law) = true)
    (pg_Store : PySem.W.plainGet K C_Store Str.empty = true)
    (hd_Store : PySem.W.hasDictIn K C_Store = true)
    (po_Store : PySem.W.plainOver K C_Store = true)
    (sa_Store : PySem.W.findIn K (.ref C_Store) "__setattr__" = some (some (.builtin "object.__setattr__")))
    (mk_Store : PySem.W.makesIn K C_Store = true)
    (kc_Store : PySem.W.keepIn K (.ref C_Store) = true)
    (na_Store_revision : PySem.W.findIn K (.ref C_Store) "revision" = some none)
    (na_Store_oldest : PySem.W.findIn K (.ref C_Store) "oldest" = some none)
    (na_Store__table : PySem.W.findIn K (.ref C_Store) "_table" = some none)
    (na_Store__changes : PySem.W.findIn K (.ref C_Store) "_changes" = some none)
    (c_SIZE : PySem.W.nsIn K mainGlobals "SIZE" = some (some (.int 2 t_SIZE)))
    (c_STATE : PySem.W.nsIn K mainGlobals "STATE" = some (some (.int 3 t_STATE)))
    (c_SPACE : PySem.W.nsIn K mainGlobals "SPACE" = some (some (.int 32 t_SPACE)))
    (c_PERCENT : PySem.W.nsIn K mainGlobals "PERCENT" = some (some (.int 37 t_PERCENT)))
    (c_TILDE : PySem.W.nsIn K mainGlobals "TILDE" = some (some (.int 126 t_TILDE)))
    (c_DIGITS : PySem.W.nsIn K mainGlobals "DIGITS" = some (some (.str "0123456789" t_DIGITS)))
    (c_KINDS : PySem.W.nsIn K mainGlobals "KINDS" = some (some (.ref ca_KINDS)))
    (q_KINDS : K.lookup ca_KINDS = some ⟨.type "tuple", cd0_KINDS, .seq cv_KINDS.toArray cn_KINDS, cs_KINDS⟩)
    (v_KINDS : Vals [(.str "beat"), (.str "drain"), (.str "node"), (.str "note"), (.str "rollout"), (.str "service"), (.str "task")] cv_KINDS)
    (c_STATES : PySem.W.nsIn K mainGlobals "STATES" = some (some (.ref ca_STATES)))
    (q_STATES : K.lookup ca_STATES = some ⟨.type "tuple", cd0_STATES, .seq cv_STATES.toArray cn_STATES, cs_STATES⟩)
    (v_STATES : Vals [(.str "new"), (.str "bound"), (.str "running"), (.str "ended")] cv_STATES)
    (c_NAME_CHARACTERS : PySem.W.nsIn K mainGlobals "NAME_CHARACTERS" = some (some (.str "abcdefghijklmnopqrstuvwxyz0123456789" t_NAME_CHARACTERS)))
    (c_MOST_NAME : PySem.W.nsIn K mainGlobals "MOST_NAME" = some (some (.int 12 t_MOST_NAME)))
    (c_MOST_TEXT : PySem.W.nsIn K mainGlobals "MOST_TEXT" = some (some (.int 40 t_MOST_TEXT)))
    (c_MOST_COUNT : PySem.W.nsIn K mainGlobals "MOST_COUNT" = some (some (.int 1000000000000 t_MOST_COUNT)))
    (c_MOST_NUMBER : PySem.W.nsIn K mainGlobals "MOST_NUMBER" = some (some (.int 9 t_MOST_NUMBER)))
    (c_MOST_MEMBERS : PySem.W.nsIn K mainGlobals "MOST_MEMBERS" = some (some (.int 12 t_MOST_MEMBERS)))
    (c_VALUE_FORMS : PySem.W.nsIn K mainGlobals "VALUE_FORMS" = some (some (.ref ca_VALUE_FORMS)))
    (q_VALUE_FORMS : K.lookup ca_VALUE_FORMS = some ⟨.type "dict", none, .dict ce_VALUE_FORMS cn_VALUE_FORMS, #[]⟩)
    (w_VALUE_FORMS : PySem.W.KeysLit w.params ce_VALUE_FORMS.toList)
    (z_VALUE_FORMS : (ca_VALUE_FORMS == sysModules) = false)
    (j_VALUE_FORMS_beat : PySem.W.nsIn K ca_VALUE_FORMS "beat" = some (some (.ref f__is_beat)))
    (j_VALUE_FORMS_drain : PySem.W.nsIn K ca_VALUE_FORMS "drain" = some (some (.ref f__is_drain)))
    (j_VALUE_FORMS_node : PySem.W.nsIn K ca_VALUE_FORMS "node" = some (some (.ref f__is_node)))
    (j_VALUE_FORMS_note : PySem.W.nsIn K ca_VALUE_FORMS "note" = some (some (.ref f__is_note)))
    (j_VALUE_FORMS_rollout : PySem.W.nsIn K ca_VALUE_FORMS "rollout" = some (some (.ref f__is_rollout)))
    (j_VALUE_FORMS_service : PySem.W.nsIn K ca_VALUE_FORMS "service" = some (some (.ref f__is_service)))
    (j_VALUE_FORMS_task : PySem.W.nsIn K ca_VALUE_FORMS "task" = some (some (.ref f__is_task)))
    (n_isinstance : PySem.W.nsIn K mainGlobals "isinstance" = some none)
    (n_int : PySem.W.nsIn K mainGlobals "int" = some none)
    (n_bool : PySem.W.nsIn K mainGlobals "bool" = some none)
    (n_len : PySem.W.nsIn K mainGlobals "len" = some none)
    (n_str : PySem.W.nsIn K mainGlobals "str" = some none)
    (n_all : PySem.W.nsIn K mainGlobals "all" = some none)
    (n_ord : PySem.W.nsIn K mainGlobals "ord" = some none)
    (n_tuple : PySem.W.nsIn K mainGlobals "tuple" = some none)
    (n_list : PySem.W.nsIn K mainGlobals "list" = some none)
    (n_sorted : PySem.W.nsIn K mainGlobals "sorted" = some none)
    (n_range : PySem.W.nsIn K mainGlobals "range" = some none)
    (n_abs : PySem.W.nsIn K mainGlobals "abs" = some none) :
    LamX.LawAtS l w K CX0 12 63 "script" mg fa h := by
  have e : fa = f_law := by
    have z := hfa.symm.trans (PySem.W.mg_of X G g_law)
    injection z with z
    injection z
  rw [e]
  let T : TX K mg w := ⟨e_MajordomoError, (PySem.W.mg_of X G g_MajordomoError), x_MajordomoError, k_MajordomoError, s_MajordomoError, t_MajordomoError, e_StoreError, (PySem.W.mg_of X G g_StoreError), x_StoreError, k_StoreError, s_StoreError, t_StoreError, e_BadTransaction, (PySem.W.mg_of X G g_BadTransaction), x_BadTransaction, k_BadTransaction, s_BadTransaction, t_BadTransaction, C_Store, f_ended, (PySem.W.fnOf "ended" "ended" (defArgs s_ended) (defBody s_ended) (defScope s_ended) .none kV_ended dc_ended pm_ended an_ended cd_ended ct_ended), (fun_mk (st := s_ended) l_ended c_ended k_ended), ((fun_mk (st := s_ended) l_ended c_ended k_ended).binds (ps := ["value"]) fun _ _ _ _ _ _ us hl => match us, hl with | [_], _ => rfl), (PySem.W.mg_of X G g_ended), f_started, (PySem.W.fnOf "started" "started" (defArgs s_started) (defBody s_started) (defScope s_started) .none kV_started dc_started pm_started an_started cd_started ct_started), (fun_mk (st := s_started) l_started c_started k_started), ((fun_mk (st := s_started) l_started c_started k_started).binds (ps := ["value"]) fun _ _ _ _ _ _ us hl => match us, hl with | [_], _ => rfl), (PySem.W.mg_of X G g_started), f__next_life, (PySem.W.fnOf "_next_life" "_next_life" (defArgs s__next_life) (defBody s__next_life) (defScope s__next_life) .none kV__next_life dc__next_life pm__next_life an__next_life cd__next_life ct__next_life), (fun_mk (st := s__next_life) l__next_life c__next_life k__next_life), ((fun_mk (st := s__next_life) l__next_life c__next_life k__next_life).binds (ps := ["node_entry"]) fun _ _ _ _ _ _ us hl => match us, hl with | [_], _ => rfl), (PySem.W.mg_of X G g__next_life), f_enroll_transaction, (PySem.W.fnOf "enroll_transaction" "enroll_transaction" (defArgs s_enroll_transaction) (defBody s_enroll_transaction) (defScope s_enroll_transaction) .none kV_enroll_transaction dc_enroll_transaction pm_enroll_transaction an_enroll_transaction cd_enroll_transaction ct_enroll_transaction), (fun_mk (st := s_enroll_transaction) l_enroll_transaction c_enroll_transaction k_enroll_transaction), ((fun_mk (st := s_enroll_transaction) l_enroll_transaction c_enroll_transaction k_enroll_transaction).binds (ps := ["name", "size", "zone", "node_entry", "beat_entry"]) fun _ _ _ _ _ _ us hl => match us, hl with | [_, _, _, _, _], _ => rfl), (PySem.W.mg_of X G g_enroll_transaction), f_beat_transaction, (PySem.W.fnOf "beat_transaction" "beat_transaction" (defArgs s_beat_transaction) (defBody s_beat_transaction) (defScope s_beat_transaction) .none kV_beat_transaction dc_beat_transaction pm_beat_transaction an_beat_transaction cd_beat_transaction ct_beat_transaction), (fun_mk (st := s_beat_transaction) l_beat_transaction c_beat_transaction k_beat_transaction), ((fun_mk (st := s_beat_transaction) l_beat_transaction c_beat_transaction k_beat_transaction).binds (ps := ["name", "beat_rev", "life", "count"]) fun _ _ _ _ _ _ us hl => match us, hl with | [_, _, _, _], _ => rfl), (PySem.W.mg_of X G g_beat_transaction), f_start_transaction, (PySem.W.fnOf "start_transaction" "start_transaction" (defArgs s_start_transaction) (defBody s_start_transaction) (defScope s_start_transaction) .none kV_start_transaction dc_start_transaction pm_start_transaction an_start_transaction cd_start_transaction ct_start_transaction), (fun_mk (st := s_start_transaction) l_start_transaction c_start_transaction k_start_transaction), ((fun_mk (st := s_start_transaction) l_start_transaction c_start_transaction k_start_transaction).binds (ps := ["slot", "task_entry"]) fun _ _ _ _ _ _ us hl => match us, hl with | [_, _], _ => rfl), (PySem.W.mg_of X G g_start_transaction), f_end_transaction, (PySem.W.fnOf "end_transaction" "end_transaction" (defArgs s_end_transaction) (defBody s_end_transaction) (defScope s_end_transaction) .none kV_end_transaction dc_end_transaction pm_end_transaction an_end_transaction cd_end_transaction ct_end_transaction), (fun_mk (st := s_end_transaction) l_end_transaction c_end_transaction k_end_transaction), ((fun_mk (st := s_end_transaction) l_end_transaction c_end_transaction k_end_transaction).binds (ps := ["slot", "task_entry", "node", "node_entry"]) fun _ _ _ _ _ _ us hl => match us, hl with | [_, _, _, _], _ => rfl), (PySem.W.mg_of X G g_end_transaction), f_has_plain_characters, (PySem.W.fnOf "has_plain_characters" "has_plain_characters" (defArgs s_has_plain_characters) (defBody s_has_plain_characters) (defScope s_has_plain_characters) .none kV_has_plain_characters dc_has_plain_characters pm_has_plain_characters an_has_plain_characters cd_has_plain_characters ct_has_plain_characters), (fun_mk (st := s_has_plain_characters) l_has_plain_characters c_has_plain_characters k_has_plain_characters), ((fun_mk (st := s_has_plain_characters) l_has_plain_characters c_has_plain_characters k_has_plain_characters).binds (ps := ["text"]) fun _ _ _ _ _ _ us hl => match us, hl with | [_], _ => rfl), (PySem.W.mg_of X G g_has_plain_characters), f_is_integer_within, (PySem.W.fnOf "is_integer_within" "is_integer_within" (defArgs s_is_integer_within) (defBody s_is_integer_within) (defScope s_is_integer_within) .none kV_is_integer_within dc_is_integer_within pm_is_integer_within an_is_integer_within cd_is_integer_within ct_is_integer_within), (fun_mk (st := s_is_integer_within) l_is_integer_within c_is_integer_within k_is_integer_within), ((fun_mk (st := s_is_integer_within) l_is_integer_within c_is_integer_within k_is_integer_within).binds (ps := ["number", "low", "high"]) fun _ _ _ _ _ _ us hl => match us, hl with | [_, _, _], _ => rfl), (PySem.W.mg_of X G g_is_integer_within), f_is_plain_name, (PySem.W.fnOf "is_plain_name" "is_plain_name" (defArgs s_is_plain_name) (defBody s_is_plain_name) (defScope s_is_plain_name) .none kV_is_plain_name dc_is_plain_name pm_is_plain_name an_is_plain_name cd_is_plain_name ct_is_plain_name), (fun_mk (st := s_is_plain_name) l_is_plain_name c_is_plain_name k_is_plain_name), ((fun_mk (st := s_is_plain_name) l_is_plain_name c_is_plain_name k_is_plain_name).binds (ps := ["name"]) fun _ _ _ _ _ _ us hl => match us, hl with | [_], _ => rfl), (PySem.W.mg_of X G g_is_plain_name), f_is_slot_name, (PySem.W.fnOf "is_slot_name" "is_slot_name" (defArgs s_is_slot_name) (defBody s_is_slot_name) (defScope s_is_slot_name) .none kV_is_slot_name dc_is_slot_name pm_is_slot_name an_is_slot_name cd_is_slot_name ct_is_slot_name), (fun_mk (st := s_is_slot_name) l_is_slot_name c_is_slot_name k_is_slot_name), ((fun_mk (st := s_is_slot_name) l_is_slot_name c_is_slot_name k_is_slot_name).binds (ps := ["name"]) fun _ _ _ _ _ _ us hl => match us, hl with | [_], _ => rfl), (PySem.W.mg_of X G g_is_slot_name), f_is_text, (PySem.W.fnOf "is_text" "is_text" (defArgs s_is_text) (defBody s_is_text) (defScope s_is_text) .none kV_is_text dc_is_text pm_is_text an_is_text cd_is_text ct_is_text), (fun_mk (st := s_is_text) l_is_text c_is_text k_is_text), ((fun_mk (st := s_is_text) l_is_text c_is_text k_is_text).binds (ps := ["text"]) fun _ _ _ _ _ _ us hl => match us, hl with | [_], _ => rfl), (PySem.W.mg_of X G g_is_text), f_is_count, (PySem.W.fnOf "is_count" "is_count" (defArgs s_is_count) (defBody s_is_count) (defScope s_is_count) .none kV_is_count dc_is_count pm_is_count an_is_count cd_is_count ct_is_count), (fun_mk (st := s_is_count) l_is_count c_is_count k_is_count), ((fun_mk (st := s_is_count) l_is_count c_is_count k_is_count).binds (ps := ["number"]) fun _ _ _ _ _ _ us hl => match us, hl with | [_], _ => rfl), (PySem.W.mg_of X G g_is_count), f_is_zone, (PySem.W.fnOf "is_zone" "is_zone" (defArgs s_is_zone) (defBody s_is_zone) (defScope s_is_zone) .none kV_is_zone dc_is_zone pm_is_zone an_is_zone cd_is_zone ct_is_zone), (fun_mk (st := s_is_zone) l_is_zone c_is_zone k_is_zone), ((fun_mk (st := s_is_zone) l_is_zone c_is_zone k_is_zone).binds (ps := ["zone"]) fun _ _ _ _ _ _ us hl => match us, hl with | [_], _ => rfl), (PySem.W.mg_of X G g_is_zone), f_is_key, (PySem.W.fnOf "is_key" "is_key" (defArgs s_is_key) (defBody s_is_key) (defScope s_is_key) .none kV_is_key dc_is_key pm_is_key an_is_key cd_is_key ct_is_key), (fun_mk (st := s_is_key) l_is_key c_is_key k_is_key), ((fun_mk (st := s_is_key) l_is_key c_is_key k_is_key).binds (ps := ["kind", "name"]) fun _ _ _ _ _ _ us hl => match us, hl with | [_, _], _ => rfl), (PySem.W.mg_of X G g_is_key), f__is_beat, (PySem.W.fnOf "_is_beat" "_is_beat" (defArgs s__is_beat) (defBody s__is_beat) (defScope s__is_beat) .none kV__is_beat dc__is_beat pm__is_beat an__is_beat cd__is_beat ct__is_beat), (fun_mk (st := s__is_beat) l__is_beat c__is_beat k__is_beat), ((fun_mk (st := s__is_beat) l__is_beat c__is_beat k__is_beat).binds (ps := ["value"]) fun _ _ _ _ _ _ us hl => match us, hl with | [_], _ => rfl), (PySem.W.mg_of X G g__is_beat), f__is_drain, (PySem.W.fnOf "_is_drain" "_is_drain" (defArgs s__is_drain) (defBody s__is_drain) (defScope s__is_drain) .none kV__is_drain dc__is_drain pm__is_drain an__is_drain cd__is_drain ct__is_drain), (fun_mk (st := s__is_drain) l__is_drain c__is_drain k__is_drain), ((fun_mk (st := s__is_drain) l__is_drain c__is_drain k__is_drain).binds (ps := ["value"]) fun _ _ _ _ _ _ us hl => match us, hl with | [_], _ => rfl), (PySem.W.mg_of X G g__is_drain), f__is_node, (PySem.W.fnOf "_is_node" "_is_node" (defArgs s__is_node) (defBody s__is_node) (defScope s__is_node) .none kV__is_node dc__is_node pm__is_node an__is_node cd__is_node ct__is_node), (fun_mk (st := s__is_node) l__is_node c__is_node k__is_node), ((fun_mk (st := s__is_node) l__is_node c__is_node k__is_node).binds (ps := ["value"]) fun _ _ _ _ _ _ us hl => match us, hl with | [_], _ => rfl), (PySem.W.mg_of X G g__is_node), f__is_note, (PySem.W.fnOf "_is_note" "_is_note" (defArgs s__is_note) (defBody s__is_note) (defScope s__is_note) .none kV__is_note dc__is_note pm__is_note an__is_note cd__is_note ct__is_note), (fun_mk (st := s__is_note) l__is_note c__is_note k__is_note), ((fun_mk (st := s__is_note) l__is_note c__is_note k__is_note).binds (ps := ["value"]) fun _ _ _ _ _ _ us hl => match us, hl with | [_], _ => rfl), (PySem.W.mg_of X G g__is_note), f__is_rollout, (PySem.W.fnOf "_is_rollout" "_is_rollout" (defArgs s__is_rollout) (defBody s__is_rollout) (defScope s__is_rollout) .none kV__is_rollout dc__is_rollout pm__is_rollout an__is_rollout cd__is_rollout ct__is_rollout), (fun_mk (st := s__is_rollout) l__is_rollout c__is_rollout k__is_rollout), ((fun_mk (st := s__is_rollout) l__is_rollout c__is_rollout k__is_rollout).binds (ps := ["value"]) fun _ _ _ _ _ _ us hl => match us, hl with | [_], _ => rfl), (PySem.W.mg_of X G g__is_rollout), f__are_open_numbers, (PySem.W.fnOf "_are_open_numbers" "_are_open_numbers" (defArgs s__are_open_numbers) (defBody s__are_open_numbers) (defScope s__are_open_numbers) .none kV__are_open_numbers dc__are_open_numbers pm__are_open_numbers an__are_open_numbers cd__are_open_numbers ct__are_open_numbers), (fun_mk (st := s__are_open_numbers) l__are_open_numbers c__are_open_numbers k__are_open_numbers), ((fun_mk (st := s__are_open_numbers) l__are_open_numbers c__are_open_numbers k__are_open_numbers).binds (ps := ["numbers"]) fun _ _ _ _ _ _ us hl => match us, hl with | [_], _ => rfl), (PySem.W.mg_of X G g__are_open_numbers), f__is_service, (PySem.W.fnOf "_is_service" "_is_service" (defArgs s__is_service) (defBody s__is_service) (defScope s__is_service) .none kV__is_service dc__is_service pm__is_service an__is_service cd__is_service ct__is_service), (fun_mk (st := s__is_service) l__is_service c__is_service k__is_service), ((fun_mk (st := s__is_service) l__is_service c__is_service k__is_service).binds (ps := ["value"]) fun _ _ _ _ _ _ us hl => match us, hl with | [_], _ => rfl), (PySem.W.mg_of X G g__is_service), f__is_task, (PySem.W.fnOf "_is_task" "_is_task" (defArgs s__is_task) (defBody s__is_task) (defScope s__is_task) .none kV__is_task dc__is_task pm__is_task an__is_task cd__is_task ct__is_task), (fun_mk (st := s__is_task) l__is_task c__is_task k__is_task), ((fun_mk (st := s__is_task) l__is_task c__is_task k__is_task).binds (ps := ["value"]) fun _ _ _ _ _ _ us hl => match us, hl with | [_], _ => rfl), (PySem.W.mg_of X G g__is_task), f_is_object, (PySem.W.fnOf "is_object" "is_object" (defArgs s_is_object) (defBody s_is_object) (defScope s_is_object) .none kV_is_object dc_is_object pm_is_object an_is_object cd_is_object ct_is_object), (fun_mk (st := s_is_object) l_is_object c_is_object k_is_object), ((fun_mk (st := s_is_object) l_is_object c_is_object k_is_object).binds (ps := ["kind", "name", "value"]) fun _ _ _ _ _ _ us hl => match us, hl with | [_, _, _], _ => rfl), (PySem.W.mg_of X G g_is_object), f__is_tuple_of, (PySem.W.fnOf "_is_tuple_of" "_is_tuple_of" (defArgs s__is_tuple_of) (defBody s__is_tuple_of) (defScope s__is_tuple_of) .none kV__is_tuple_of dc__is_tuple_of pm__is_tuple_of an__is_tuple_of cd__is_tuple_of ct__is_tuple_of), (fun_mk (st := s__is_tuple_of) l__is_tuple_of c__is_tuple_of k__is_tuple_of), ((fun_mk (st := s__is_tuple_of) l__is_tuple_of c__is_tuple_of k__is_tuple_of).binds (ps := ["value", "size"]) fun _ _ _ _ _ _ us hl => match us, hl with | [_, _], _ => rfl), (PySem.W.mg_of X G g__is_tuple_of), f__is_condition, (PySem.W.fnOf "_is_condition" "_is_condition" (defArgs s__is_condition) (defBody s__is_condition) (defScope s__is_condition) .none kV__is_condition dc__is_condition pm__is_condition an__is_condition cd__is_condition ct__is_condition), (fun_mk (st := s__is_condition) l__is_condition c__is_condition k__is_condition), ((fun_mk (st := s__is_condition) l__is_condition c__is_condition k__is_condition).binds (ps := ["condition"]) fun _ _ _ _ _ _ us hl => match us, hl with | [_], _ => rfl), (PySem.W.mg_of X G g__is_condition), f__is_put, (PySem.W.fnOf "_is_put" "_is_put" (defArgs s__is_put) (defBody s__is_put) (defScope s__is_put) .none kV__is_put dc__is_put pm__is_put an__is_put cd__is_put ct__is_put), (fun_mk (st := s__is_put) l__is_put c__is_put k__is_put), ((fun_mk (st := s__is_put) l__is_put c__is_put k__is_put).binds (ps := ["put"]) fun _ _ _ _ _ _ us hl => match us, hl with | [_], _ => rfl), (PySem.W.mg_of X G g__is_put), f__is_delete, (PySem.W.fnOf "_is_delete" "_is_delete" (defArgs s__is_delete) (defBody s__is_delete) (defScope s__is_delete) .none kV__is_delete dc__is_delete pm__is_delete an__is_delete cd__is_delete ct__is_delete), (fun_mk (st := s__is_delete) l__is_delete c__is_delete k__is_delete), ((fun_mk (st := s__is_delete) l__is_delete c__is_delete k__is_delete).binds (ps := ["delete"]) fun _ _ _ _ _ _ us hl => match us, hl with | [_], _ => rfl), (PySem.W.mg_of X G g__is_delete), f__are_distinct, (PySem.W.fnOf "_are_distinct" "_are_distinct" (defArgs s__are_distinct) (defBody s__are_distinct) (defScope s__are_distinct) .none kV__are_distinct dc__are_distinct pm__are_distinct an__are_distinct cd__are_distinct ct__are_distinct), (fun_mk (st := s__are_distinct) l__are_distinct c__are_distinct k__are_distinct), ((fun_mk (st := s__are_distinct) l__are_distinct c__are_distinct k__are_distinct).binds (ps := ["keys"]) fun _ _ _ _ _ _ us hl => match us, hl with | [_], _ => rfl), (PySem.W.mg_of X G g__are_distinct), f_check_transaction, (PySem.W.fnOf "check_transaction" "check_transaction" (defArgs s_check_transaction) (defBody s_check_transaction) (defScope s_check_transaction) .none kV_check_transaction dc_check_transaction pm_check_transaction an_check_transaction cd_check_transaction ct_check_transaction), (fun_mk (st := s_check_transaction) l_check_transaction c_check_transaction k_check_transaction), ((fun_mk (st := s_check_transaction) l_check_transaction c_check_transaction k_check_transaction).binds (ps := ["transaction"]) fun _ _ _ _ _ _ us hl => match us, hl with | [_], _ => rfl), (PySem.W.mg_of X G g_check_transaction), f__sorted_by_key, (PySem.W.fnOf "_sorted_by_key" "_sorted_by_key" (defArgs s__sorted_by_key) (defBody s__sorted_by_key) (defScope s__sorted_by_key) .none kV__sorted_by_key dc__sorted_by_key pm__sorted_by_key an__sorted_by_key cd__sorted_by_key ct__sorted_by_key), cc__sorted_by_key, pp__sorted_by_key, (show (PySem.FuncData.code (PySem.W.fnOf "_sorted_by_key" "_sorted_by_key" (defArgs s__sorted_by_key) (defBody s__sorted_by_key) (defScope s__sorted_by_key) .none kV__sorted_by_key dc__sorted_by_key pm__sorted_by_key an__sorted_by_key cd__sorted_by_key ct__sorted_by_key)) = .ref cc__sorted_by_key from hc__sorted_by_key), (fun_mk (st := s__sorted_by_key) l__sorted_by_key c__sorted_by_key k__sorted_by_key), ((fun_mk (st := s__sorted_by_key) l__sorted_by_key c__sorted_by_key k__sorted_by_key).binds (ps := ["members"]) fun _ _ _ _ _ _ us hl => match us, hl with | [_], _ => rfl), (PySem.W.mg_of X G g__sorted_by_key), f_Store___init__, (PySem.W.fnOf "__init__" "Store.__init__" (defArgs s_Store___init__) (defBody s_Store___init__) (defScope s_Store___init__) .none kV_Store___init__ dc_Store___init__ pm_Store___init__ an_Store___init__ cd_Store___init__ ct_Store___init__), (fun_mk (st := s_Store___init__) l_Store___init__ c_Store___init__ k_Store___init__), ((fun_mk (st := s_Store___init__) l_Store___init__ c_Store___init__ k_Store___init__).binds (ps := ["self"]) fun _ _ _ _ _ _ us hl => match us, hl with | [_], _ => rfl), f_Store_entry, (PySem.W.fnOf "entry" "Store.entry" (defArgs s_Store_entry) (defBody s_Store_entry) (defScope s_Store_entry) .none kV_Store_entry dc_Store_entry pm_Store_entry an_Store_entry cd_Store_entry ct_Store_entry), (fun_mk (st := s_Store_entry) l_Store_entry c_Store_entry k_Store_entry), ((fun_mk (st := s_Store_entry) l_Store_entry c_Store_entry k_Store_entry).binds (ps := ["self", "kind", "name"]) fun _ _ _ _ _ _ us hl => match us, hl with | [_, _, _], _ => rfl), ⟨m_Store_entry, i_Store_entry, k_Store_entry⟩, f_Store_entries, (PySem.W.fnOf "entries" "Store.entries" (defArgs s_Store_entries) (defBody s_Store_entries) (defScope s_Store_entries) .none kV_Store_entries dc_Store_entries pm_Store_entries an_Store_entries cd_Store_entries ct_Store_entries), (fun_mk (st := s_Store_entries) l_Store_entries c_Store_entries k_Store_entries), ((fun_mk (st := s_Store_entries) l_Store_entries c_Store_entries k_Store_entries).binds (ps := ["self"]) fun _ _ _ _ _ _ us hl => match us, hl with | [_], _ => rfl), ⟨m_Store_entries, i_Store_entries, k_Store_entries⟩, f_Store_apply, (PySem.W.fnOf "apply" "Store.apply" (defArgs s_Store_apply) (defBody s_Store_apply) (defScope s_Store_apply) .none kV_Store_apply dc_Store_apply pm_Store_apply an_Store_apply cd_Store_apply ct_Store_apply), (fun_mk (st := s_Store_apply) l_Store_apply c_Store_apply k_Store_apply), ((fun_mk (st := s_Store_apply) l_Store_apply c_Store_apply k_Store_apply).binds (ps := ["self", "transaction"]) fun _ _ _ _ _ _ us hl => match us, hl with | [_, _], _ => rfl), ⟨m_Store_apply, i_Store_apply, k_Store_apply⟩, f_Store__holds, (PySem.W.fnOf "_holds" "Store._holds" (defArgs s_Store__holds) (defBody s_Store__holds) (defScope s_Store__holds) .none kV_Store__holds dc_Store__holds pm_Store__holds an_Store__holds cd_Store__holds ct_Store__holds), (fun_mk (st := s_Store__holds) l_Store__holds c_Store__holds k_Store__holds), ((fun_mk (st := s_Store__holds) l_Store__holds c_Store__holds k_Store__holds).binds (ps := ["self", "kind", "name", "revision"]) fun _ _ _ _ _ _ us hl => match us, hl with | [_, _, _, _], _ => rfl), ⟨m_Store__holds, i_Store__holds, k_Store__holds⟩, f_Store__change, (PySem.W.fnOf "_change" "Store._change" (defArgs s_Store__change) (defBody s_Store__change) (defScope s_Store__change) .none kV_Store__change dc_Store__change pm_Store__change an_Store__change cd_Store__change ct_Store__change), (fun_mk (st := s_Store__change) l_Store__change c_Store__change k_Store__change), ((fun_mk (st := s_Store__change) l_Store__change c_Store__change k_Store__change).binds (ps := ["self", "puts", "deletes"]) fun _ _ _ _ _ _ us hl => match us, hl with | [_, _, _], _ => rfl), ⟨m_Store__change, i_Store__change, k_Store__change⟩, f__law_number, (PySem.W.fnOf "_law_number" "_law_number" (defArgs s__law_number) (defBody s__law_number) (defScope s__law_number) .none kV__law_number dc__law_number pm__law_number an__law_number cd__law_number ct__law_number), (fun_mk (st := s__law_number) l__law_number c__law_number k__law_number), ((fun_mk (st := s__law_number) l__law_number c__law_number k__law_number).binds (ps := ["script", "k"]) fun _ _ _ _ _ _ us hl => match us, hl with | [_, _], _ => rfl), (PySem.W.mg_of X G g__law_number), f__law_digits, (PySem.W.fnOf "_law_digits" "_law_digits" (defArgs s__law_digits) (defBody s__law_digits) (defScope s__law_digits) .none kV__law_digits dc__law_digits pm__law_digits an__law_digits cd__law_digits ct__law_digits), (fun_mk (st := s__law_digits) l__law_digits c__law_digits k__law_digits), ((fun_mk (st := s__law_digits) l__law_digits c__law_digits k__law_digits).binds (ps := ["script", "k", "sizes"]) fun _ _ _ _ _ _ us hl => match us, hl with | [_, _, _], _ => rfl), (PySem.W.mg_of X G g__law_digits), f__law_fill, (PySem.W.fnOf "_law_fill" "_law_fill" (defArgs s__law_fill) (defBody s__law_fill) (defScope s__law_fill) .none kV__law_fill dc__law_fill pm__law_fill an__law_fill cd__law_fill ct__law_fill), (fun_mk (st := s__law_fill) l__law_fill c__law_fill k__law_fill), ((fun_mk (st := s__law_fill) l__law_fill c__law_fill k__law_fill).binds (ps := ["script"]) fun _ _ _ _ _ _ us hl => match us, hl with | [_], _ => rfl), (PySem.W.mg_of X G g__law_fill), f__law_bind, (PySem.W.fnOf "_law_bind" "_law_bind" (defArgs s__law_bind) (defBody s__law_bind) (defScope s__law_bind) .none kV__law_bind dc__law_bind pm__law_bind an__law_bind cd__law_bind ct__law_bind), (fun_mk (st := s__law_bind) l__law_bind c__law_bind k__law_bind), ((fun_mk (st := s__law_bind) l__law_bind c__law_bind k__law_bind).binds (ps := ["store", "slot"]) fun _ _ _ _ _ _ us hl => match us, hl with | [_, _], _ => rfl), (PySem.W.mg_of X G g__law_bind), f__law_refused, (PySem.W.fnOf "_law_refused" "_law_refused" (defArgs s__law_refused) (defBody s__law_refused) (defScope s__law_refused) .none kV__law_refused dc__law_refused pm__law_refused an__law_refused cd__law_refused ct__law_refused), (fun_mk (st := s__law_refused) l__law_refused c__law_refused k__law_refused), ((fun_mk (st := s__law_refused) l__law_refused c__law_refused k__law_refused).binds (ps := ["store", "transaction", "kept"]) fun _ _ _ _ _ _ us hl => match us, hl with | [_, _, _], _ => rfl), (PySem.W.mg_of X G g__law_refused), f__law_enroll, (PySem.W.fnOf "_law_enroll" "_law_enroll" (defArgs s__law_enroll) (defBody s__law_enroll) (defScope s__law_enroll) .none kV__law_enroll dc__law_enroll pm__law_enroll an__law_enroll cd__law_enroll ct__law_enroll), (fun_mk (st := s__law_enroll) l__law_enroll c__law_enroll k__law_enroll), ((fun_mk (st := s__law_enroll) l__law_enroll c__law_enroll k__law_enroll).binds (ps := ["store", "old", "size"]) fun _ _ _ _ _ _ us hl => match us, hl with | [_, _, _], _ => rfl), (PySem.W.mg_of X G g__law_enroll), f__law_beat, (PySem.W.fnOf "_law_beat" "_law_beat" (defArgs s__law_beat) (defBody s__law_beat) (defScope s__law_beat) .none kV__law_beat dc__law_beat pm__law_beat an__law_beat cd__law_beat ct__law_beat), (fun_mk (st := s__law_beat) l__law_beat c__law_beat k__law_beat), ((fun_mk (st := s__law_beat) l__law_beat c__law_beat k__law_beat).binds (ps := ["store", "rev", "number"]) fun _ _ _ _ _ _ us hl => match us, hl with | [_, _, _], _ => rfl), (PySem.W.mg_of X G g__law_beat), f__law_start, (PySem.W.fnOf "_law_start" "_law_start" (defArgs s__law_start) (defBody s__law_start) (defScope s__law_start) .none kV__law_start dc__law_start pm__law_start an__law_start cd__law_start ct__law_start), (fun_mk (st := s__law_start) l__law_start c__law_start k__law_start), ((fun_mk (st := s__law_start) l__law_start c__law_start k__law_start).binds (ps := ["store", "slot", "entry"]) fun _ _ _ _ _ _ us hl => match us, hl with | [_, _, _], _ => rfl), (PySem.W.mg_of X G g__law_start), f__law_end, (PySem.W.fnOf "_law_end" "_law_end" (defArgs s__law_end) (defBody s__law_end) (defScope s__law_end) .none kV__law_end dc__law_end pm__law_end an__law_end cd__law_end ct__law_end), (fun_mk (st := s__law_end) l__law_end c__law_end k__law_end), ((fun_mk (st := s__law_end) l__law_end c__law_end k__law_end).binds (ps := ["store", "slot", "entry", "node"]) fun _ _ _ _ _ _ us hl => match us, hl with | [_, _, _, _], _ => rfl), (PySem.W.mg_of X G g__law_end), f__law_good, (PySem.W.fnOf "_law_good" "_law_good" (defArgs s__law_good) (defBody s__law_good) (defScope s__law_good) .none kV__law_good dc__law_good pm__law_good an__law_good cd__law_good ct__law_good), (fun_mk (st := s__law_good) l__law_good c__law_good k__law_good), ((fun_mk (st := s__law_good) l__law_good c__law_good k__law_good).binds (ps := ["store"]) fun _ _ _ _ _ _ us hl => match us, hl with | [_], _ => rfl), (PySem.W.mg_of X G g__law_good), f__law_deed, (PySem.W.fnOf "_law_deed" "_law_deed" (defArgs s__law_deed) (defBody s__law_deed) (defScope s__law_deed) .none kV__law_deed dc__law_deed pm__law_deed an__law_deed cd__law_deed ct__law_deed), (fun_mk (st := s__law_deed) l__law_deed c__law_deed k__law_deed), ((fun_mk (st := s__law_deed) l__law_deed c__law_deed k__law_deed).binds (ps := ["store", "first", "digits", "number"]) fun _ _ _ _ _ _ us hl => match us, hl with | [_, _, _, _], _ => rfl), (PySem.W.mg_of X G g__law_deed), f_law, (PySem.W.fnOf "law" "law" (defArgs s_law) (defBody s_law) (defScope s_law) .none kV_law dc_law pm_law an_law cd_law ct_law), (fun_mk (st := s_law) l_law c_law k_law), ((fun_mk (st := s_law) l_law c_law k_law).binds (ps := ["script"]) fun _ _ _ _ _ _ us hl => match us, hl with | [_], _ => rfl), (PySem.W.mg_of X G g_law), ⟨pg_Store, hd_Store, po_Store, sa_Store⟩, (PySem.W.mg_of X G gc_Store), ⟨mk_Store, m_Store___init__, i_Store___init__, kc_Store⟩, na_Store_revision, na_Store_oldest, na_Store__table, na_Store__changes, t_SIZE, (PySem.W.mg_of X G c_SIZE), t_STATE, (PySem.W.mg_of X G c_STATE), t_SPACE, (PySem.W.mg_of X G c_SPACE), t_PERCENT, (PySem.W.mg_of X G c_PERCENT), t_TILDE, (PySem.W.mg_of X G c_TILDE), t_DIGITS, (PySem.W.mg_of X G c_DIGITS), ca_KINDS, (PySem.W.mg_of X G c_KINDS), (fun H => Or.inr ⟨_, cv_KINDS.toArray, cn_KINDS, q_KINDS, rfl, rfl, (by rw [List.size_toArray, ← (Vals.length v_KINDS)]; exact (by decide : 7 ≤ sizeLine)), (by simpa using v_KINDS)⟩), ca_STATES, (PySem.W.mg_of X G c_STATES), (fun H => Or.inr ⟨_, cv_STATES.toArray, cn_STATES, q_STATES, rfl, rfl, (by rw [List.size_toArray, ← (Vals.length v_STATES)]; exact (by decide : 4 ≤ sizeLine)), (by simpa using v_STATES)⟩), t_NAME_CHARACTERS, (PySem.W.mg_of X G c_NAME_CHARACTERS), t_MOST_NAME, (PySem.W.mg_of X G c_MOST_NAME), t_MOST_TEXT, (PySem.W.mg_of X G c_MOST_TEXT), t_MOST_COUNT, (PySem.W.mg_of X G c_MOST_COUNT), t_MOST_NUMBER, (PySem.W.mg_of X G c_MOST_NUMBER), t_MOST_MEMBERS, (PySem.W.mg_of X G c_MOST_MEMBERS), ca_VALUE_FORMS, (PySem.W.mg_of X G c_VALUE_FORMS), ce_VALUE_FORMS, cn_VALUE_FORMS, ⟨q_VALUE_FORMS, w_VALUE_FORMS, z_VALUE_FORMS⟩, j_VALUE_FORMS_beat, j_VALUE_FORMS_drain, j_VALUE_FORMS_node, j_VALUE_FORMS_note, j_VALUE_FORMS_rollout, j_VALUE_FORMS_service, j_VALUE_FORMS_task, (PySem.W.mg_none_of X G n_isinstance), (PySem.W.mg_none_of X G n_int), (PySem.W.mg_none_of X G n_bool), (PySem.W.mg_none_of X G n_len), (PySem.W.mg_none_of X G n_str), (PySem.W.mg_none_of X G n_all), (PySem.W.mg_none_of X G n_ord), (PySem.W.mg_none_of X G n_tuple), (PySem.W.mg_none_of X G n_list), (PySem.W.mg_none_of X G n_sorted), (PySem.W.mg_none_of X G n_range), (PySem.W.mg_none_of X G n_abs)⟩
  obtain ⟨a0, o0, fd0, c0, P0, z1, z2, z3, z4, z5, z6⟩ := hnm
  rw [PySem.W.mg_of X G g__sorted_by_key] at z1
  cases z1
  rw [X _ _ l__sorted_by_key] at z2
  cases z2
  cases z3
  have z4' := hc__sorted_by_key.symm.trans z4
  cases z4'
  have z7 := z6
  obtain ⟨⟨o1, us, y1, y2, y3, y4⟩, y5⟩ := z6
  rw [X _ _ lc__sorted_by_key] at y1
  cases y1
  cases y3
  rw [lv__sorted_by_key] at y4
  cases y4
  exact ⟨T.d_law, [(cc__sorted_by_key, pp__sorted_by_key)], sp_law K pp__sorted_by_key, fun p hp => (by rw [List.mem_singleton.mp hp]; exact y5), fun p hp => (by rw [List.mem_singleton.mp hp]; exact np__sorted_by_key), fun p hp => (by rw [List.mem_singleton.mp hp]; exact PySem.W.CodeHd.of z5 z7), fun s v => .of_eq rfl,
    fun H a ns hl _ hT hS => ⟨a, ns, rfl, hS, hl, LamX.TabS.nil (hT _ (List.mem_cons_self ..)), fun _ => rfl⟩, fun base _ _ hB => ok_law T (hB _ (List.mem_cons_self ..))⟩
end My
open PySem PySem.W PyProof.Rows
set_option maxHeartbeats 0 in
theorem PySem.Challenge.cw_majordomo_k78_a_life_in_the_store_holds : PySem.Challenge.rw_majordomo_k78_a_life_in_the_store.Holds := by
  w_on; o_law; k_head; (case hw => w_witness2)
  k_fill
  refine My.walk_ofTab (l := PySem.Challenge.rw_majordomo_k78_a_life_in_the_store) (n := 63) (k := 12) (x := "script") (CX := (fun _ => L2.CX0)) "_sorted_by_key" rfl (by decide) rfl ⟨rfl, by decide, by decide⟩ ?R (fun w h Y => PySem.W.km_in_of Y) ?F (fun _ _ _ _ _ h => h)
  case R => first | rfl | decide +kernel
  case F =>
    intro w mg fa h Y KX G hmg tab
    refine' My.all_mk KX G hmg tab ?g_MajordomoError ?x_MajordomoError ?k_MajordomoError ?s_MajordomoError ?t_MajordomoError ?g_StoreError ?x_StoreError ?k_StoreError ?s_StoreError ?t_StoreError ?g_BadTransaction ?x_BadTransaction ?k_BadTransaction ?s_BadTransaction ?t_BadTransaction ?g_ended ?l_ended ?c_ended ?k_ended ?g_started ?l_started ?c_started ?k_started ?g__next_life ?l__next_life ?c__next_life ?k__next_life ?g_enroll_transaction ?l_enroll_transaction ?c_enroll_transaction ?k_enroll_transaction ?g_beat_transaction ?l_beat_transaction ?c_beat_transaction ?k_beat_transaction ?g_start_transaction ?l_start_transaction ?c_start_transaction ?k_start_transaction ?g_end_transaction ?l_end_transaction ?c_end_transaction ?k_end_transaction ?g_has_plain_characters ?l_has_plain_characters ?c_has_plain_characters ?k_has_plain_characters ?g_is_integer_within ?l_is_integer_within ?c_is_integer_within ?k_is_integer_within ?g_is_plain_name ?l_is_plain_name ?c_is_plain_name ?k_is_plain_name ?g_is_slot_name ?l_is_slot_name ?c_is_slot_name ?k_is_slot_name ?g_is_text ?l_is_text ?c_is_text ?k_is_text ?g_is_count ?l_is_count ?c_is_count ?k_is_count ?g_is_zone ?l_is_zone ?c_is_zone ?k_is_zone ?g_is_key ?l_is_key ?c_is_key ?k_is_key ?g__is_beat ?l__is_beat ?c__is_beat ?k__is_beat ?g__is_drain ?l__is_drain ?c__is_drain ?k__is_drain ?g__is_node ?l__is_node ?c__is_node ?k__is_node ?g__is_note ?l__is_note ?c__is_note ?k__is_note ?g__is_rollout ?l__is_rollout ?c__is_rollout ?k__is_rollout ?g__are_open_numbers ?l__are_open_numbers ?c__are_open_numbers ?k__are_open_numbers ?g__is_service ?l__is_service ?c__is_service ?k__is_service ?g__is_task ?l__is_task ?c__is_task ?k__is_task ?g_is_object ?l_is_object ?c_is_object ?k_is_object ?g__is_tuple_of ?l__is_tuple_of ?c__is_tuple_of ?k__is_tuple_of ?g__is_condition ?l__is_condition ?c__is_condition ?k__is_condition ?g__is_put ?l__is_put ?c__is_put ?k__is_put ?g__is_delete ?l__is_delete ?c__is_delete ?k__is_delete ?g__are_distinct ?l__are_distinct ?c__are_distinct ?k__are_distinct ?g_check_transaction ?l_check_transaction ?c_check_transaction ?k_check_transaction ?g__sorted_by_key ?l__sorted_by_key ?c__sorted_by_key ?k__sorted_by_key ?hc__sorted_by_key ?lc__sorted_by_key ?lv__sorted_by_key ?np__sorted_by_key ?gc_Store ?m_Store___init__ ?i_Store___init__ ?l_Store___init__ ?c_Store___init__ ?k_Store___init__ ?m_Store_entry ?i_Store_entry ?l_Store_entry ?c_Store_entry ?k_Store_entry ?m_Store_entries ?i_Store_entries ?l_Store_entries ?c_Store_entries ?k_Store_entries ?m_Store_apply ?i_Store_apply ?l_Store_apply ?c_Store_apply ?k_Store_apply ?m_Store__holds ?i_Store__holds ?l_Store__holds ?c_Store__holds ?k_Store__holds ?m_Store__change ?i_Store__change ?l_Store__change ?c_Store__change ?k_Store__change ?g__law_number ?l__law_number ?c__law_number ?k__law_number ?g__law_digits ?l__law_digits ?c__law_digits ?k__law_digits ?g__law_fill ?l__law_fill ?c__law_fill ?k__law_fill ?g__law_bind ?l__law_bind ?c__law_bind ?k__law_bind ?g__law_refused ?l__law_refused ?c__law_refused ?k__law_refused ?g__law_enroll ?l__law_enroll ?c__law_enroll ?k__law_enroll ?g__law_beat ?l__law_beat ?c__law_beat ?k__law_beat ?g__law_start ?l__law_start ?c__law_start ?k__law_start ?g__law_end ?l__law_end ?c__law_end ?k__law_end ?g__law_good ?l__law_good ?c__law_good ?k__law_good ?g__law_deed ?l__law_deed ?c__law_deed ?k__law_deed ?g_law ?l_law ?c_law ?k_law ?pg_Store ?hd_Store ?po_Store ?sa_Store ?mk_Store ?kc_Store ?na_Store_revision ?na_Store_oldest ?na_Store__table ?na_Store__changes ?c_SIZE ?c_STATE ?c_SPACE ?c_PERCENT ?c_TILDE ?c_DIGITS ?c_KINDS ?q_KINDS ?v_KINDS ?c_STATES ?q_STATES ?v_STATES ?c_NAME_CHARACTERS ?c_MOST_NAME ?c_MOST_TEXT ?c_MOST_COUNT ?c_MOST_NUMBER ?c_MOST_MEMBERS ?c_VALUE_FORMS ?q_VALUE_FORMS ?w_VALUE_FORMS ?z_VALUE_FORMS ?j_VALUE_FORMS_beat ?j_VALUE_FORMS_drain ?j_VALUE_FORMS_node ?j_VALUE_FORMS_note ?j_VALUE_FORMS_rollout ?j_VALUE_FORMS_service ?j_VALUE_FORMS_task ?n_isinstance ?n_int ?n_bool ?n_len ?n_str ?n_all ?n_ord ?n_tuple ?n_list ?n_sorted ?n_range ?n_abs
    (case g_MajordomoError => k_is); (case x_MajordomoError => k_exc); (case k_MajordomoError => k_is); (case s_MajordomoError => k_is); (case t_MajordomoError => k_is); (case g_StoreError => k_is); (case x_StoreError => k_exc); (case k_StoreError => k_is); (case s_StoreError => k_is); (case t_StoreError => k_is); (case g_BadTransaction => k_is); (case x_BadTransaction => k_exc); (case k_BadTransaction => k_is); (case s_BadTransaction => k_is); (case t_BadTransaction => k_is); (case g_ended => k_is); (case l_ended => k_is); (case c_ended => k_is); (case k_ended => k_is); (case g_started => k_is); (case l_started => k_is); (case c_started => k_is); (case k_started => k_is); (case g__next_life => k_is); (case l__next_life => k_is); (case c__next_life => k_is); (case k__next_life => k_is); (case g_enroll_transaction => k_is); (case l_enroll_transaction => k_is); (case c_enroll_transaction => k_is); (case k_enroll_transaction => k_is); (case g_beat_transaction => k_is); (case l_beat_transaction => k_is); (case c_beat_transaction => k_is); (case k_beat_transaction => k_is); (case g_start_transaction => k_is); (case l_start_transaction => k_is); (case c_start_transaction => k_is); (case k_start_transaction => k_is); (case g_end_transaction => k_is); (case l_end_transaction => k_is); (case c_end_transaction => k_is); (case k_end_transaction => k_is); (case g_has_plain_characters => k_is); (case l_has_plain_characters => k_is); (case c_has_plain_characters => k_is); (case k_has_plain_characters => k_is); (case g_is_integer_within => k_is); (case l_is_integer_within => k_is); (case c_is_integer_within => k_is); (case k_is_integer_within => k_is); (case g_is_plain_name => k_is); (case l_is_plain_name => k_is); (case c_is_plain_name => k_is); (case k_is_plain_name => k_is); (case g_is_slot_name => k_is); (case l_is_slot_name => k_is); (case c_is_slot_name => k_is); (case k_is_slot_name => k_is); (case g_is_text => k_is); (case l_is_text => k_is); (case c_is_text => k_is); (case k_is_text => k_is); (case g_is_count => k_is); (case l_is_count => k_is); (case c_is_count => k_is); (case k_is_count => k_is); (case g_is_zone => k_is); (case l_is_zone => k_is); (case c_is_zone => k_is); (case k_is_zone => k_is); (case g_is_key => k_is); (case l_is_key => k_is); (case c_is_key => k_is); (case k_is_key => k_is); (case g__is_beat => k_is); (case l__is_beat => k_is); (case c__is_beat => k_is); (case k__is_beat => k_is); (case g__is_drain => k_is); (case l__is_drain => k_is); (case c__is_drain => k_is); (case k__is_drain => k_is); (case g__is_node => k_is); (case l__is_node => k_is); (case c__is_node => k_is); (case k__is_node => k_is); (case g__is_note => k_is); (case l__is_note => k_is); (case c__is_note => k_is); (case k__is_note => k_is); (case g__is_rollout => k_is); (case l__is_rollout => k_is); (case c__is_rollout => k_is); (case k__is_rollout => k_is); (case g__are_open_numbers => k_is); (case l__are_open_numbers => k_is); (case c__are_open_numbers => k_is); (case k__are_open_numbers => k_is); (case g__is_service => k_is); (case l__is_service => k_is); (case c__is_service => k_is); (case k__is_service => k_is); (case g__is_task => k_is); (case l__is_task => k_is); (case c__is_task => k_is); (case k__is_task => k_is); (case g_is_object => k_is); (case l_is_object => k_is); (case c_is_object => k_is); (case k_is_object => k_is); (case g__is_tuple_of => k_is); (case l__is_tuple_of => k_is); (case c__is_tuple_of => k_is); (case k__is_tuple_of => k_is); (case g__is_condition => k_is); (case l__is_condition => k_is); (case c__is_condition => k_is); (case k__is_condition => k_is); (case g__is_put => k_is); (case l__is_put => k_is); (case c__is_put => k_is); (case k__is_put => k_is); (case g__is_delete => k_is); (case l__is_delete => k_is); (case c__is_delete => k_is); (case k__is_delete => k_is); (case g__are_distinct => k_is); (case l__are_distinct => k_is); (case c__are_distinct => k_is); (case k__are_distinct => k_is); (case g_check_transaction => k_is); (case l_check_transaction => k_is); (case c_check_transaction => k_is); (case k_check_transaction => k_is); (case g__sorted_by_key => k_is); (case l__sorted_by_key => k_is); (case c__sorted_by_key => k_is); (case k__sorted_by_key => k_is); (case hc__sorted_by_key => first | k_is | rfl | decide +kernel); (case lc__sorted_by_key => first | k_is | rfl | decide +kernel); (case lv__sorted_by_key => first | k_is | rfl | decide +kernel); (case np__sorted_by_key => first | k_is | rfl | decide +kernel); (case gc_Store => k_is); (case m_Store___init__ => k_is); (case i_Store___init__ => k_is); (case l_Store___init__ => k_is); (case c_Store___init__ => k_is); (case k_Store___init__ => k_is); (case m_Store_entry => k_is); (case i_Store_entry => k_is); (case l_Store_entry => k_is); (case c_Store_entry => k_is); (case k_Store_entry => k_is); (case m_Store_entries => k_is); (case i_Store_entries => k_is); (case l_Store_entries => k_is); (case c_Store_entries => k_is); (case k_Store_entries => k_is); (case m_Store_apply => k_is); (case i_Store_apply => k_is); (case l_Store_apply => k_is); (case c_Store_apply => k_is); (case k_Store_apply => k_is); (case m_Store__holds => k_is); (case i_Store__holds => k_is); (case l_Store__holds => k_is); (case c_Store__holds => k_is); (case k_Store__holds => k_is); (case m_Store__change => k_is); (case i_Store__change => k_is); (case l_Store__change => k_is); (case c_Store__change => k_is); (case k_Store__change => k_is); (case g__law_number => k_is); (case l__law_number => k_is); (case c__law_number => k_is); (case k__law_number => k_is); (case g__law_digits => k_is); (case l__law_digits => k_is); (case c__law_digits => k_is); (case k__law_digits => k_is); (case g__law_fill => k_is); (case l__law_fill => k_is); (case c__law_fill => k_is); (case k__law_fill => k_is); (case g__law_bind => k_is); (case l__law_bind => k_is); (case c__law_bind => k_is); (case k__law_bind => k_is); (case g__law_refused => k_is); (case l__law_refused => k_is); (case c__law_refused => k_is); (case k__law_refused => k_is); (case g__law_enroll => k_is); (case l__law_enroll => k_is); (case c__law_enroll => k_is); (case k__law_enroll => k_is); (case g__law_beat => k_is); (case l__law_beat => k_is); (case c__law_beat => k_is); (case k__law_beat => k_is); (case g__law_start => k_is); (case l__law_start => k_is); (case c__law_start => k_is); (case k__law_start => k_is); (case g__law_end => k_is); (case l__law_end => k_is); (case c__law_end => k_is); (case k__law_end => k_is); (case g__law_good => k_is); (case l__law_good => k_is); (case c__law_good => k_is); (case k__law_good => k_is); (case g__law_deed => k_is); (case l__law_deed => k_is); (case c__law_deed => k_is); (case k__law_deed => k_is); (case g_law => k_is); (case l_law => k_is); (case c_law => k_is); (case k_law => k_is); (case pg_Store => k_is); (case hd_Store => k_is); (case po_Store => k_is); (case sa_Store => k_is); (case mk_Store => k_is); (case kc_Store => k_is); (case na_Store_revision => k_is); (case na_Store_oldest => k_is); (case na_Store__table => k_is); (case na_Store__changes => k_is); (case c_SIZE => k_is); (case c_STATE => k_is); (case c_SPACE => k_is); (case c_PERCENT => k_is); (case c_TILDE => k_is); (case c_DIGITS => k_is); (case c_KINDS => k_is); (case q_KINDS => k_is); (case v_KINDS => (repeat (first | exact .nil | refine .cons ⟨_, rfl⟩ ?_ | refine .cons rfl ?_))); (case c_STATES => k_is); (case q_STATES => k_is); (case v_STATES => (repeat (first | exact .nil | refine .cons ⟨_, rfl⟩ ?_ | refine .cons rfl ?_))); (case c_NAME_CHARACTERS => k_is); (case c_MOST_NAME => k_is); (case c_MOST_TEXT => k_is); (case c_MOST_COUNT => k_is); (case c_MOST_NUMBER => k_is); (case c_MOST_MEMBERS => k_is); (case c_VALUE_FORMS => k_is); (case q_VALUE_FORMS => k_is); (case w_VALUE_FORMS => (repeat (first | exact True.intro | refine ⟨⟨_, _, rfl, rfl⟩, ?_⟩))); (case z_VALUE_FORMS => (first | k_is | rfl | decide)); (case j_VALUE_FORMS_beat => k_is); (case j_VALUE_FORMS_drain => k_is); (case j_VALUE_FORMS_node => k_is); (case j_VALUE_FORMS_note => k_is); (case j_VALUE_FORMS_rollout => k_is); (case j_VALUE_FORMS_service => k_is); (case j_VALUE_FORMS_task => k_is); (case n_isinstance => k_is); (case n_int => k_is); (case n_bool => k_is); (case n_len => k_is); (case n_str => k_is); (case n_all => k_is); (case n_ord => k_is); (case n_tuple => k_is); (case n_list => k_is); (case n_sorted => k_is); (case n_range => k_is); (case n_abs => k_is)

