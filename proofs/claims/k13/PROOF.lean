import PyProof.Rows.All
import Wide.All
import OpenK.AllK
import Wide.FinOn
import HandS.ForMost
import HandS.IsInst
import HandS.EndBits
import HandS.Wide
import HandS.WideBits
import HandS.TupAny
import HandS.Codes
import HandS.Defaults
import HandS.ForExc
import HandS.TryMany
import HandS.ExcIs
import HandS.TryElse
import HandS.DictComp
import HandS.Walk
import HandS.Text
import HandS.TupLe
import HandS.TupMul
import PyProof.TupleIter
import PyProof.StrLoop
import HandS.Hot
import HandS.Iter
import HandS.Words
import HandS.HotCalls
import HandS.ExcCtx
import HandS.Comp
import KE.GoesRaise
import PySem.Challenge.RW_majordomo_k13_refused_records
set_option Elab.async false
set_option linter.all false
set_option maxRecDepth 100000
set_option maxHeartbeats 4000000

namespace My
open PySem PySem.Spec PyProof.Rows L2
/-! own words: tests, heaps, items -/
theorem ifd {p A B : Prop} [Decidable p] (h1 : p → A) (h2 : ¬ p → B) : if decide p = true then A else B := by
  by_cases h : p
  · rw [decide_eq_true h]; exact (if_pos rfl).mpr (h1 h)
  · rw [decide_eq_false h]; exact (if_neg Bool.false_ne_true).mpr (h2 h)
theorem ifn {p A B : Prop} [Decidable p] (h1 : ¬ p → A) (h2 : p → B) : if (!decide p) = true then A else B := by
  by_cases h : p
  · rw [decide_eq_true h]; exact (if_neg Bool.false_ne_true).mpr (h2 h)
  · rw [decide_eq_false h]; exact (if_pos rfl).mpr (h1 h)
theorem ift {p A B : Prop} [Decidable p] (h : p) (h1 : A) : if decide p = true then A else B := by
  rw [decide_eq_true h]; exact (if_pos rfl).mpr h1
theorem iff0 {p A B : Prop} [Decidable p] (h : ¬ p) (h1 : B) : if decide p = true then A else B := by
  rw [decide_eq_false h]; exact (if_neg Bool.false_ne_true).mpr h1
theorem ifnt {p A B : Prop} [Decidable p] (h : p) (h1 : B) : if (!decide p) = true then A else B := by
  rw [decide_eq_true h]; exact (if_neg Bool.false_ne_true).mpr h1
theorem ifbt {b : Bool} {A B : Prop} (h : b = true) (h1 : A) : if b = true then A else B := (if_pos h).mpr h1
theorem ifbf {b : Bool} {A B : Prop} (h : b = false) (h1 : B) : if b = true then A else B := by rw [h]; exact h1
theorem ifb2 {b : Bool} {A B : Prop} (h1 : b = true → A) (h2 : b = false → B) : if b = true then A else B := by
  cases b with
  | true => exact h1 rfl
  | false => exact h2 rfl
theorem same_upd {H : Hp} {p : Addr} {o : HO} (h : H p = none) : Same H (upd H p o) := fun b x e => by
  rw [upd_ne (ne_of_none e h)]
  exact e
theorem same_put {H H' : Hp} {p : Addr} {o : HO} (e : Same H H') (h : H p = none) : Same H (upd H' p o) := fun b x q => by
  rw [upd_ne (ne_of_none q h)]
  exact e b x q
theorem sqt_same {K : PySem.W.Frag} {H H' : Hp} {a : Addr} {xs : List V} (e : Same H H') (h : SqT K H a xs) : SqT K H' a xs := by
  rcases h with (h | ⟨o, h⟩) | h
  · exact .inl (.inl (e _ _ h))
  · exact .inl (.inr ⟨o, e _ _ h⟩)
  · exact .inr h
theorem sql {K : PySem.W.Frag} {H : Hp} {a : Addr} {xs : List V} (h : H a = some (.lst xs)) : SqL K H a xs := .inl (.inl h)
theorem sqt {K : PySem.W.Frag} {H : Hp} {a : Addr} {xs : List V} (h : H a = some (.tup xs)) : SqT K H a xs := .inl (.inl h)
theorem sz {n : Nat} (h : n ≤ 100000) : n ≤ sizeLine := Nat.le_trans h (by decide)
theorem szl {n : Nat} (h : n ≤ 100000) : n < sizeLine := Nat.lt_of_le_of_lt h (by decide)
theorem map_at {α : Type} {f : α → V} {xs : List α} {i : Nat} {y : V} (h : (xs.map f)[i]? = some y) : ∃ x, xs[i]? = some x ∧ y = f x := by
  rw [List.getElem?_map] at h
  cases e : xs[i]? with
  | none => rw [e] at h; cases h
  | some x => rw [e] at h; exact ⟨x, rfl, (Option.some.inj h).symm⟩
theorem at_map {α : Type} {f : α → V} {xs : List α} {i : Nat} {x : α} (h : xs[i]? = some x) : atI (xs.map f) (i : Int) = some (f x) := atI_nat (by rw [List.getElem?_map, h]; rfl)
theorem take_more {α : Type} {l : List α} {i : Nat} {x : α} (h : l[i]? = some x) : l.take (i + 1) = l.take i ++ [x] := by
  rw [List.take_add_one, h]; rfl
/-! deep data stands as long as what was tracked stands -/
mutual
theorem dp_same {K : PySem.W.Frag} {H H' : Hp} (e : Same H H') : ∀ (d : PyData) {v : V}, Dp K H v d → Dp K H' v d
  | _, _, .non => .non
  | _, _, .bl b => .bl b
  | _, _, .int i => .int i
  | _, _, .str x => .str x
  | .list ds, _, .lst h a => .lst (e.seq h) (dpa_same e ds a)
  | .tuple ds, _, .tup h a => .tup (sqt_same e h) (dpa_same e ds a)
theorem dpa_same {K : PySem.W.Frag} {H H' : Hp} (e : Same H H') : ∀ (ds : List PyData) {vs : List V}, DpAll K H vs ds → DpAll K H' vs ds
  | [], _, .nil => .nil
  | d :: ds, _, .cons h a => .cons (dp_same e d h) (dpa_same e ds a)
end
theorem dpa_len {K : PySem.W.Frag} {H : Hp} : ∀ {vs : List V} {ds : List PyData}, DpAll K H vs ds → vs.length = ds.length
  | _, _, .nil => rfl
  | _, _, .cons _ a => by rw [List.length_cons, List.length_cons, dpa_len a]
theorem dpa_at {K : PySem.W.Frag} {H : Hp} : ∀ {vs : List V} {ds : List PyData} {i : Nat} {v : V}, DpAll K H vs ds → vs[i]? = some v → ∃ d, ds[i]? = some d ∧ Dp K H v d
  | _, _, _, _, .nil, h => by simp at h
  | _, _, 0, _, .cons h _, e => ⟨_, rfl, by have := Option.some.inj e; subst this; exact h⟩
  | _, _, i + 1, _, .cons _ a, e => dpa_at (i := i) a (by simpa using e)
theorem dpa_app {K : PySem.W.Frag} {H : Hp} : ∀ {vs ws : List V} {ds es : List PyData}, DpAll K H vs ds → DpAll K H ws es → DpAll K H (vs ++ ws) (ds ++ es)
  | _, _, _, _, .nil, b => b
  | _, _, _, _, .cons h a, b => .cons h (dpa_app a b)
theorem eqv_self {d : PyData} (h : SeqAt.shaped d = true) : PyData.eqv d d = true := SeqAt.eqv_refl d (SeqAt.canLay_of_shaped h)
/-! data that may be compared -/
theorem layAll : ∀ {ds : List PyData}, (∀ d ∈ ds, d.canLay0 = true) → PyData.canLayAll0 ds = true
  | [], _ => rfl
  | d :: ds, h => by
    rw [PyData.canLayAll0, h d List.mem_cons_self, layAll fun e he => h e (List.mem_cons_of_mem _ he)]; rfl
theorem depAll {n : Nat} : ∀ {ds : List PyData}, (∀ d ∈ ds, d.depth ≤ n) → PyData.depthAll ds ≤ n
  | [], _ => Nat.zero_le _
  | d :: ds, h => by
    have h1 := h d List.mem_cons_self
    have h2 := depAll (ds := ds) fun e he => h e (List.mem_cons_of_mem _ he)
    simp only [PyData.depthAll]
    omega
/-- plain data of at most this depth -/
def Flat (n : Nat) (d : PyData) : Prop := d.canLay0 = true ∧ d.depth ≤ n
theorem flat_list {n : Nat} {ds : List PyData} (h : ∀ d ∈ ds, Flat n d) : Flat (n + 1) (.list ds) :=
  ⟨by rw [PyData.canLay0]; exact layAll fun d hd => (h d hd).1, by have := depAll (n := n) fun d hd => (h d hd).2; simp only [PyData.depth]; omega⟩
theorem flat_tup {n : Nat} {ds : List PyData} (h : ∀ d ∈ ds, Flat n d) : Flat (n + 1) (.tuple ds) :=
  ⟨by rw [PyData.canLay0]; exact layAll fun d hd => (h d hd).1, by have := depAll (n := n) fun d hd => (h d hd).2; simp only [PyData.depth]; omega⟩
theorem flat_int (n : Nat) (i : Int) : Flat n (.int i) := ⟨rfl, by simp [PyData.depth]⟩
theorem flat_str (n : Nat) (x : Str) (h : (PyData.str x).canLay0 = true := by decide +kernel) : Flat n (.str x) := ⟨h, by simp [PyData.depth]⟩
theorem flat_bl (n : Nat) (b : Bool) : Flat n (.bool b) := ⟨rfl, by simp [PyData.depth]⟩
theorem flat_non (n : Nat) : Flat n .none := ⟨rfl, by simp [PyData.depth]⟩
theorem Flat.mono {n m : Nat} {d : PyData} (h : Flat n d) (hm : n ≤ m) : Flat m d := ⟨h.1, Nat.le_trans h.2 hm⟩
theorem Flat.sh {n : Nat} {d : PyData} (h : Flat n d) (hn : n ≤ 64) : SeqAt.shaped d = true := by
  show (d.canLay0 && decide (d.depth ≤ 64)) = true
  rw [Bool.and_eq_true]
  exact ⟨h.1, decide_eq_true (Nat.le_trans h.2 hn)⟩
theorem tyx_t {K : PySem.W.Frag} {H : Hp} {a : Addr} {xs : List V} (h : SqT K H a xs) : TyX K H (.ref a) (.type "tuple") := by
  rcases h with (h | ⟨o, h⟩) | ⟨o, its, n, h, hc, _⟩
  · exact .base (.tup h)
  · exact .fTuple h
  · exact .kTuple h hc
theorem tyx_l {K : PySem.W.Frag} {H : Hp} {a : Addr} {xs : List V} (h : SqL K H a xs) : TyX K H (.ref a) (.type "list") := by
  rcases h with (h | ⟨o, h⟩) | ⟨o, its, n, h, hc, _⟩
  · exact .base (.lst h)
  · exact .base (.frz h)
  · exact .kList h hc
theorem same_both {G H : Hp} {t : Addr} {x : HO} (e : Same G H) : Same (upd G t x) (upd H t x) := fun b o h => by
  by_cases hb : b = t
  · subst hb; rw [upd_same] at h ⊢; exact h
  · rw [upd_ne hb] at h ⊢; exact e b o h
theorem set_self {α : Type} : ∀ {l : List α} {i : Nat} {x : α}, l[i]? = some x → l.set i x = l
  | [], i, x, h => by simp at h
  | a :: l, 0, x, h => by
    have e : a = x := Option.some.inj h
    subst e
    rfl
  | a :: l, i + 1, x, h => by
    show a :: l.set i x = a :: l
    rw [set_self (by simpa using h)]
theorem ixn {n j : Nat} {i : Int} (hi : i = (j : Int)) (hj : j < n) : ixN n i = some j := by
  unfold ixN
  rw [if_pos (by omega), if_pos (by omega)]
  congr 1
  omega
/-! shifts and masks in place -/
section
variable {X : Cx}
theorem ip_shr : PIp X .RShift (fun x y H Q => ∃ (i : Int) (k : Nat), x = .int i ∧ y = .int (k : Int) ∧ Q (.int (i / 2 ^ k)) H) := by
  intro pins s σ H x y v u Q I r1 r2 h
  obtain ⟨i, k, e1, e2, q⟩ := h
  subst e1; subst e2
  obtain ⟨t, rfl⟩ := r1
  obtain ⟨t', rfl⟩ := r2
  refine irshift_int (Int.natCast_nonneg k) ⟨.int _, H, I.tok _, ⟨_, rfl⟩, ?_⟩
  rw [Int.toNat_natCast, Int.fdiv_eq_ediv_of_nonneg _ (Int.le_of_lt (Int.pow_pos (by decide)))]
  exact q
theorem ip_or : PIp X .BitOr (fun x y H Q => ∃ (r a : Int) (k : Nat), x = .int r ∧ y = .int (a * 2 ^ k) ∧ (0 ≤ a ∧ 0 ≤ r ∧ r < 2 ^ k) ∧ Q (.int (r + a * 2 ^ k)) H) := by
  intro pins s σ H x y v u Q I r1 r2 h
  obtain ⟨r, a, k, e1, e2, ⟨h0, h1, h2⟩, q⟩ := h
  subst e1; subst e2
  obtain ⟨t, rfl⟩ := r1
  obtain ⟨t', rfl⟩ := r2
  refine ior_int ⟨.int _, H, I.tok _, ⟨_, rfl⟩, ?_⟩
  have e : Builtin.bitOr r (a * 2 ^ k) = r + a * 2 ^ k := by
    have hp : (0 : Int) ≤ a * 2 ^ k := Int.mul_nonneg h0 (Int.le_of_lt (Int.pow_pos (by decide)))
    rw [bitOr_nn h1 hp, Nat.or_comm, ← bitOr_nn hp h1, or_low h0 h1 h2, Int.add_comm]
  rw [e]
  exact q
end
theorem bits_small : ∀ n : Nat, n < 128 → Builtin.Int.intBits (n : Int) ≤ 8 := by decide +kernel
/-- isinstance(e, c) of the error that a suite holds, its class known by the reading -/
theorem call_isE1 {X : Cx} {a D : Addr} {oe : Obj} {cls : Value} {d : Option Addr} {pn : List (Addr × Obj)} (C : ExcC X.K D) (hz : Zc cls d oe) (hf : ∃ vs, oe.data = .fields vs) :
    CallR (X.suite a ((a, oe) :: pn)) (.builtin "isinstance") (fun xs H Q => cls = .ref D ∧ d = none ∧ rIsE X.K D a xs H Q) := fun pins s σ H xs us Q I r h => by
  obtain ⟨h1, h2, h⟩ := h
  subst h1
  subst h2
  exact call_isE C hz hf pins s σ H xs us Q I r h
/-! slices -/
theorem sIx_le {n d : Nat} {i : Nat} : HT.sIx n d (some (i : Int)) = min i n := HT.sIx_nat n d i
theorem cut0n (xs : List V) (j : Nat) : cutV xs none (some (j : Int)) = xs.take j := by
  unfold cutV
  rw [sIx_le, HT.sIx_none, List.drop_zero, Nat.sub_zero]
  exact (List.take_eq_take_min).symm
theorem cutnn (xs : List V) (i j : Nat) : cutV xs (some (i : Int)) (some (j : Int)) = (xs.drop i).take (j - i) := by
  unfold cutV
  rw [sIx_le, sIx_le]
  by_cases hi : i ≤ xs.length
  · rw [Nat.min_eq_left hi]
    by_cases hj : j ≤ xs.length
    · rw [Nat.min_eq_left hj]
    · rw [Nat.min_eq_right (by omega), List.take_of_length_le (by rw [List.length_drop]; omega), List.take_of_length_le (by rw [List.length_drop]; omega)]
  · have e : min i xs.length = xs.length := by omega
    rw [e, List.drop_of_length_le (Nat.le_refl _), List.drop_of_length_le (show xs.length ≤ i by omega), List.take_nil, List.take_nil]
theorem cut_ints (ns : List Int) {i j : Nat} {a b : Int} (ha : a = i) (hb : b = j) : cutV (ns.map V.int) (some a) (some b) = ((ns.drop i).take (j - i)).map V.int := by
  rw [ha, hb, cutnn, ← List.map_drop, ← List.map_take]
theorem rep_ints (ns : List Int) (k : Nat) : (List.replicate k (ns.map V.int)).flatten = (List.replicate k ns).flatten.map V.int := by
  rw [List.map_flatten, List.map_replicate]
/-- [e for x in a slice], e changes nothing -/
theorem lc_cut {K : PySem.W.Frag} {wi : TI} {te : TE} {s : Nat} {σ : L2.St} {H : Hp} {Q : VK} (xs : List V) (f : V → V)
    (hwi : ∀ R : It → Hp → Prop, (∀ p, H p = none → R (Itl K p) (upd H p (.lst xs))) → wi σ H R) (hlen : xs.length ≤ 90000)
    (hw : ∀ x, wipe ((wipe σ [s]).set s (some x)) [s] = wipe σ [s])
    (he : ∀ (i : Nat) (x : V) (G : Hp) (Q' : VK), xs[i]? = some x → Same H G → Q' (f x) G → te ((wipe σ [s]).set s (some x)) G Q')
    (k : ∀ D H', H D = none → Same H H' → H' D = some (.lst (xs.map f)) → Q (.ref D) H') : tLc wi (gName s) tYes te [s] σ H Q := by
  refine hwi _ fun p hp D hD => ?_
  have nD : D ≠ p := fun z => by rw [z, upd_same] at hD; cases hD
  have hD0 : H D = none := by rw [upd_ne nD] at hD; exact hD
  refine lc_list (K := K) (a := p) (xs := xs) (fun i H' => Same H H' ∧ H' p = some (.lst xs) ∧ H' D = some (.lst ((xs.take i).map f)))
    ⟨(same_upd hp).trans (same_upd hD), by rw [upd_ne nD.symm, upd_same], by rw [upd_same]; rfl⟩ (fun i H' _ h => sql h.2.1) (fun i x G hx hG => ?_) (fun G hG => ?_)
  · refine ⟨hw x, ?_⟩
    refine he i x G _ hx hG.1 ⟨_, hG.2.2, szl (by rw [List.length_map, List.length_take]; omega), same_put hG.1 hD0, by rw [upd_ne nD.symm]; exact hG.2.1, ?_⟩
    rw [upd_same, take_more hx, List.map_append]
    rfl
  · refine k D G hD0 hG.1 ?_
    rw [List.take_length] at hG
    exact hG.2.2
/-- lists of ints as data -/
theorem dpa_ints {K : PySem.W.Frag} {H : Hp} : ∀ ns : List Int, DpAll K H (ns.map V.int) (ns.map PyData.int)
  | [] => .nil
  | n :: ns => .cons (.int n) (dpa_ints ns)
theorem dp_ints {K : PySem.W.Frag} {H : Hp} {a : Addr} {ns : List Int} (h : SqL K H a (ns.map V.int)) : Dp K H (.ref a) (.list (ns.map PyData.int)) := .lst h (dpa_ints ns)
theorem flat_ints (ns : List Int) : Flat 1 (.list (ns.map PyData.int)) := flat_list (n := 0) fun d hd => by
  obtain ⟨i, _, rfl⟩ := List.mem_map.mp hd
  exact flat_int _ _
theorem flat_tints (ns : List Int) : Flat 1 (.tuple (ns.map PyData.int)) := flat_tup (n := 0) fun d hd => by
  obtain ⟨i, _, rfl⟩ := List.mem_map.mp hd
  exact flat_int _ _
theorem eqvAll_ints : ∀ xs ys : List Int, PyData.eqvAll (xs.map .int) (ys.map .int) = decide (xs = ys)
  | [], [] => rfl
  | [], _ :: _ => rfl
  | _ :: _, [] => rfl
  | x :: xs, y :: ys => by
    show ((x == y) && PyData.eqvAll (xs.map .int) (ys.map .int)) = _
    rw [eqvAll_ints xs ys, Bool.eq_iff_iff]
    simp
theorem eqv_ints (xs ys : List Int) : PyData.eqv (.list (xs.map .int)) (.list (ys.map .int)) = decide (xs = ys) := eqvAll_ints xs ys
theorem eqv_tints (xs ys : List Int) : PyData.eqv (.tuple (xs.map .int)) (.tuple (ys.map .int)) = decide (xs = ys) := eqvAll_ints xs ys
/-- a def with defaults that lets nothing out -/
theorem okD {P : Program} {w : World} {K : PySem.W.Frag} {mg : Str → Option Value} {base : Heap} {x qual : Str} {params : Arguments} {body : List Stmt} {scope : Scope} {dvs : List V} {kws : List (Str × V)} {f : Addr} {fd : FuncData} {N ps : List Str} {k : Nat} {sp : Sp}
    (F : FunD K x qual params body scope dvs kws f fd) (S : FnScope N ps scope) (len : ∀ vs H Q E, sp vs H Q E → vs.length = ps.length)
    (hb : ∀ (cdv : Value) (A : Around) (outer : List Env) (s : Shared) (H : Hp) (vs : List V) (Q : VK) (E : XK), Room k (A.deeper (envOfC qual scope s.heap.objs.size f cdv)) → sp vs H Q E →
      ∃ t, PSs (cxOf CX0 P w K mg base N qual scope f cdv A outer s H E).nox body t ∧ t { nx := fun _ H' => Q .non H', rt := Q } (start N vs) H) : FnOk P w K mg base CX0 (k + 1) f fd ps sp :=
  F.ok S len fun cdv A outer s H vs Q E hr h => by
    obtain ⟨t, h1, q⟩ := hb cdv A outer s H vs Q E hr h
    exact ⟨t, h1.nox, q⟩
/-! what an expression gives, whatever stands besides -/
def EI (te : TE) (σ : L2.St) (H : Hp) (v : V) : Prop := ∀ G, Same H G → ∀ Q : VK, Q v G → te σ G Q
def EA (ta : TA) (σ : L2.St) (H : Hp) (vs : List V) : Prop := ∀ G, Same H G → ∀ Q : List V → Hp → Prop, Q vs G → ta σ G Q
/-- a list, new or old -/
def EL (te : TE) (σ : L2.St) (H : Hp) (xs : List V) : Prop := ∀ G, Same H G → ∀ Q : VK, (∀ p G', Same G G' → G' p = some (.lst xs) → Q (.ref p) G') → te σ G Q
section
variable {K : PySem.W.Frag} {σ : L2.St} {H : Hp} {ta tb te : TE} {x y z v : V} {xs ys : List V}
theorem ei_var {i : Nat} (h : σ[i]? = some (some v)) : EI (tVar i) σ H v := fun _ _ _ q => ⟨v, h, q⟩
theorem ei_c : EI (tC v) σ H v := fun _ _ _ q => q
theorem ei_op {r : R2} (ha : EI ta σ H x) (hb : EI tb σ H y) (hr : ∀ G, Same H G → ∀ Q : VK, Q z G → r x y G Q) : EI (tOp r ta tb) σ H z := fun G s Q q => ha G s _ (hb G s _ (hr G s Q q))
theorem ei_i0 {g : Int → Int → V} {i j : Int} (ha : EI ta σ H (.int i)) (hb : EI tb σ H (.int j)) : EI (tOp (rI0 g) ta tb) σ H (g i j) := ei_op ha hb fun _ _ _ q => ⟨i, j, rfl, rfl, q⟩
theorem ei_ic {C : Int → Int → Prop} {g : Int → Int → V} {i j : Int} (ha : EI ta σ H (.int i)) (hb : EI tb σ H (.int j)) (hc : C i j) : EI (tOp (rI C g) ta tb) σ H (g i j) := ei_op ha hb fun _ _ _ q => ⟨i, j, rfl, rfl, hc, q⟩
theorem ea_nil : EA tNil σ H [] := fun _ _ _ q => q
theorem ea_cons {tr : TA} {vs : List V} (h : EI ta σ H x) (g : EA tr σ H vs) : EA (tCons ta tr) σ H (x :: vs) := fun G s _ q => h G s _ (g G s _ q)
theorem ei_cb {r : List V → Hp → VK → Prop} {tr : TA} {vs : List V} (ha : EA tr σ H vs) (hr : ∀ G, Same H G → ∀ Q : VK, Q z G → r vs G Q) : EI (tCB r tr) σ H z := fun G s Q q => ha G s _ (hr G s Q q)
/-- len of a list, list(..) of a list or a tuple, as they are read -/
def rLen (K : PySem.W.Frag) : List V → Hp → VK → Prop := fun xs H Q => ∃ p ys, xs = [.ref p] ∧ (SqL K H p ys ∨ SqT K H p ys) ∧ Q (.int ys.length) H
def rLst (K : PySem.W.Frag) : List V → Hp → VK → Prop := fun xs H Q => ∃ p ys, xs = [.ref p] ∧ (SqL K H p ys ∨ SqT K H p ys) ∧ ∀ l, H l = none → Q (.ref l) (upd H l (.lst ys))
def rTup (K : PySem.W.Frag) : List V → Hp → VK → Prop := fun xs H Q => ∃ p ys, xs = [.ref p] ∧ ((SqL K H p ys ∧ ∀ l, H l = none → Q (.ref l) (upd H l (.tup ys))) ∨ (SqT K H p ys ∧ Q (.ref p) H))
theorem callK_tuple {X : Cx} (h : X.K = K) : CallR X (.type "tuple") (rTup K) := by subst h; exact call_tuple_of
theorem callK_list {X : Cx} (h : X.K = K) : CallR X (.type "list") (rLst K) := by subst h; exact call_list_of
theorem opK_catA {X : Cx} (h : X.K = K) : OpR X (binaryOp .Add) (rCatA K) := by subst h; exact op_catA
theorem ixK_list {X : Cx} (h : X.K = K) : IxR X (rIxL K) := by subst h; exact ix_list
theorem ixK_tup {X : Cx} (h : X.K = K) : IxR X (rIxT K) := by subst h; exact ix_tup
theorem pe_fldK {X : Cx} {e : Expr} {f : Str} {pos : Pos} {ta : TE} (h : X.K = K) (he : PE X e ta) (hb : attributeBase e f X.env (eval e X.env) = eval e X.env) : PE X (.Attribute e f pos) (tFld K ta f) := by subst h; exact pe_fld he hb
theorem callK_len {X : Cx} (h : X.K = K) : CallR X (.builtin "len") (rLen K) := by subst h; exact call_len_seq
theorem ei_lenL {i : Nat} {p : Addr} (h : σ[i]? = some (some (.ref p))) (e : SqL K H p xs) : EI (tCB (rLen K) (tCons (tVar i) tNil)) σ H (.int (xs.length : Int)) := ei_cb (ea_cons (ei_var h) ea_nil) fun _ s _ q => ⟨p, xs, rfl, .inl (s.seq e), q⟩
theorem ei_lenT {i : Nat} {p : Addr} (h : σ[i]? = some (some (.ref p))) (e : SqT K H p xs) : EI (tCB (rLen K) (tCons (tVar i) tNil)) σ H (.int (xs.length : Int)) := ei_cb (ea_cons (ei_var h) ea_nil) fun _ s _ q => ⟨p, xs, rfl, .inr (sqt_same s e), q⟩
theorem ei_fld {i : Nat} {p C dx : Addr} {fs : List (Str × V)} {f : Str} (h : σ[i]? = some (some (.ref p))) (hp : H p = some (.ins C dx fs)) (c : Cls K C) (n : NoAttr K C f) (l : fs.lookup f = some v) : EI (tFld K (tVar i) f) σ H v := fun _ s _ q => ⟨.ref p, h, p, C, dx, fs, v, rfl, s _ _ hp, c, n, l, q⟩
theorem ei_din {td : TE} {d : Addr} {kvs : List (Key × V)} {k : Key} (hy : EI te σ H (kV k)) (hd : EI td σ H (.ref d)) (e : H d = some (.dK kvs)) : EI (tDIn te td) σ H (.bl (valV kvs k).isSome) := fun G s _ q => hy G s _ (hd G s _ ⟨d, _, rfl, DGet.k (s _ _ e), q⟩)
theorem ei_dnotin {td : TE} {d : Addr} {kvs : List (Key × V)} {k : Key} (hy : EI te σ H (kV k)) (hd : EI td σ H (.ref d)) (e : H d = some (.dK kvs)) : EI (tDNotIn te td) σ H (.bl (!(valV kvs k).isSome)) := fun G s _ q => hy G s _ (hd G s _ ⟨d, _, rfl, DGet.k (s _ _ e), q⟩)
theorem ei_dget {td : TE} {d : Addr} {kvs : List (Key × V)} {k : Key} (hy : EI te σ H (kV k)) (hd : EI td σ H (.ref d)) (e : H d = some (.dK kvs)) (hv : valV kvs k = some v) : EI (tDGet td te) σ H v := fun G s _ q => hd G s _ (hy G s _ ⟨d, v, rfl, by rw [← hv]; exact DGet.k (s _ _ e), q⟩)
theorem ei_ixL {p : Addr} {j : Int} (ha : EI ta σ H (.ref p)) (hi : EI tb σ H (.int j)) (e : SqL K H p xs) (h : atI xs j = some v) : EI (tOp (rIxL K) ta tb) σ H v := ei_op ha hi fun _ s _ q => ⟨p, xs, j, v, rfl, rfl, s.seq e, h, q⟩
theorem ei_ixT {p : Addr} {j : Int} (ha : EI ta σ H (.ref p)) (hi : EI tb σ H (.int j)) (e : SqT K H p xs) (h : atI xs j = some v) : EI (tOp (rIxT K) ta tb) σ H v := ei_op ha hi fun _ s _ q => ⟨p, xs, j, v, rfl, rfl, sqt_same s e, h, q⟩
theorem ei_eq (ha : EI ta σ H x) (hb : EI tb σ H y) (h : scal x y = true) : EI (tOp rEq ta tb) σ H (.bl (decide (x = y))) := ei_op ha hb fun _ _ _ q => ⟨h, q⟩
theorem ei_ne (ha : EI ta σ H x) (hb : EI tb σ H y) (h : scal x y = true) : EI (tOp rNe ta tb) σ H (.bl (!decide (x = y))) := ei_op ha hb fun _ _ _ q => ⟨h, q⟩
/-- a test by its value -/
theorem tt_use {b : Bool} {Q : Bool → Hp → Prop} (h : EI te σ H (.bl b)) (k : Q b H) : tTest te σ H Q := h H (Same.refl _) _ ⟨b, rfl, k⟩
theorem tb_use {b : Bool} {Q : Bool → Hp → Prop} (h : EI te σ H (.bl b)) (k : Q b H) : tB te σ H Q := h H (Same.refl _) _ ⟨b, rfl, k⟩
theorem el_var {i : Nat} {p : Addr} (h : σ[i]? = some (some (.ref p))) (e : H p = some (.lst xs)) : EL (tVar i) σ H xs := fun G s _ q => ⟨.ref p, h, q p G (Same.refl _) (s _ _ e)⟩
/-- a new list -/
def EN (te : TE) (σ : L2.St) (H : Hp) (xs : List V) : Prop := ∀ G, Same H G → ∀ Q : VK, (∀ p G', G p = none → Same G G' → G' p = some (.lst xs) → Q (.ref p) G') → te σ G Q
theorem EN.el (h : EN te σ H xs) : EL te σ H xs := fun G s Q q => h G s Q fun p G' _ => q p G'
theorem en_lst {tr : TA} {vs : List V} (ha : EA tr σ H vs) (hl : vs.length ≤ 90000) : EN (tLst tr) σ H vs := fun G s _ q => ha G s _ ⟨sz (by omega), fun p hp => q p _ hp (same_upd hp) upd_same⟩
theorem en_cat (ha : EL ta σ H xs) (hb : EL tb σ H ys) (hl : xs.length + ys.length ≤ 90000) : EN (tOp rCat ta tb) σ H (xs ++ ys) := fun G s _ q =>
  ha G s _ fun p G1 s1 e1 => hb G1 (s.trans s1) _ fun p2 G2 s2 e2 => ⟨p, p2, xs, ys, rfl, rfl, s2 _ _ e1, e2, sz (by omega), fun p3 h3 => q p3 _ ((s1.trans s2).free h3) ((s1.trans s2).trans (same_upd h3)) upd_same⟩
theorem en_rep {k : Int} (ha : EL ta σ H xs) (hb : EI tb σ H (.int k)) (h1 : -1000000 ≤ k) (h2 : k ≤ 1000000) (hl : xs.length * k.toNat ≤ 90000) : EN (tOp rRep ta tb) σ H (List.replicate k.toNat xs).flatten := fun G s _ q =>
  ha G s _ fun p G1 s1 e1 => hb G1 (s.trans s1) _ ⟨p, k, xs, rfl, rfl, e1, by omega, by omega, sz (by omega), fun p3 h3 => q p3 _ (s1.free h3) (s1.trans (same_upd h3)) upd_same⟩
theorem el_lst {tr : TA} {vs : List V} (ha : EA tr σ H vs) (hl : vs.length ≤ 90000) : EL (tLst tr) σ H vs := (en_lst ha hl).el
theorem el_cat (ha : EL ta σ H xs) (hb : EL tb σ H ys) (hl : xs.length + ys.length ≤ 90000) : EL (tOp rCat ta tb) σ H (xs ++ ys) := (en_cat ha hb hl).el
theorem el_rep {k : Int} (ha : EL ta σ H xs) (hb : EI tb σ H (.int k)) (h1 : -1000000 ≤ k) (h2 : k ≤ 1000000) (hl : xs.length * k.toNat ≤ 90000) : EL (tOp rRep ta tb) σ H (List.replicate k.toNat xs).flatten := (en_rep ha hb h1 h2 hl).el
theorem el_cb {r : List V → Hp → VK → Prop} {tr : TA} {vs : List V} (ha : EA tr σ H vs) (hr : ∀ G, Same H G → ∀ Q : VK, (∀ p G', Same G G' → G' p = some (.lst xs) → Q (.ref p) G') → r vs G Q) : EL (tCB r tr) σ H xs := fun G s Q q => ha G s _ (hr G s Q q)
theorem el_call {sp : Sp} {dvs : List V} {E : XK} {tr : TA} {vs : List V} (ha : EA tr σ H vs) (hr : ∀ G, Same H G → ∀ Q : VK, (∀ p G', Same G G' → G' p = some (.lst xs) → Q (.ref p) G') → sp (vs ++ dvs) G Q E) : EL (tCall sp dvs E tr) σ H xs := fun G s Q q => ha G s _ (hr G s Q q)
theorem el_listL {i : Nat} {p : Addr} (h : σ[i]? = some (some (.ref p))) (e : SqL K H p xs) : EL (tCB (rLst K) (tCons (tVar i) tNil)) σ H xs := el_cb (ea_cons (ei_var h) ea_nil) fun _ s _ q => ⟨p, xs, rfl, .inl (s.seq e), fun l hl => q l _ (same_upd hl) upd_same⟩
theorem el_listT {i : Nat} {p : Addr} (h : σ[i]? = some (some (.ref p))) (e : SqT K H p xs) : EL (tCB (rLst K) (tCons (tVar i) tNil)) σ H xs := el_cb (ea_cons (ei_var h) ea_nil) fun _ s _ q => ⟨p, xs, rfl, .inr (sqt_same s e), fun l hl => q l _ (same_upd hl) upd_same⟩
/-- x = an expression that gives a list -/
theorem EL.use {Q : VK} (h : EL te σ H xs) (k : ∀ p H', Same H H' → H' p = some (.lst xs) → Q (.ref p) H') : te σ H Q := h H (Same.refl _) Q k
theorem EN.use {Q : VK} (h : EN te σ H xs) (k : ∀ p H', H p = none → Same H H' → H' p = some (.lst xs) → Q (.ref p) H') : te σ H Q := h H (Same.refl _) Q k
theorem EI.use {Q : VK} (h : EI te σ H v) (k : Q v H) : te σ H Q := h H (Same.refl _) Q k
end
/-- defaults: what is bound where keywords give the rest -/
theorem kb_one {K : PySem.W.Frag} {x qual : Str} {params : Arguments} {body : List Stmt} {scope : Scope} {dvs : List V} {f : Addr} {fd : FuncData} {ps : List Str} (F : FunD K x qual params body scope dvs [] f fd) (n : Nat) (ks : List Str) (hd : dvs ≠ [])
    (h : ∀ (T : Addr) (kV doc pm : Value) (an : Option Addr) (cdv ct : Value) (us ws its : List Value), us.length = n → ws.length = ks.length → its.length = dvs.length →
      ∃ k, bindArgs (PySem.W.fnOf x qual params body scope (.ref T) kV doc pm an cdv ct) ⟨us, ks.zip ws⟩ = seqItems? (.ref T) >>= k ∧ k (some its.toArray) = pure (ps.zip (us ++ ws))) :
    KBn K fd ps n ks (fun us ws => us ++ ws) (fun vs zs => vs ++ zs) := by
  obtain ⟨oc, od, dV, kV, doc, pm, an, cdv, ct, osl, rfl, lk, hcd, hD, hK⟩ := F.ex
  rcases hD with ⟨e, _⟩ | ⟨_, T, o, its, m, rfl, lT, oT, rT⟩
  · exact absurd e hd
  · refine ⟨fun s us ws X h1 h2 => BindsTo.of_looks fun M => ?_, fun r1 r2 => r1.append r2⟩
    obtain ⟨k, e1, e2⟩ := h T kV doc pm an cdv ct us ws its h1 h2 rT.length.symm
    rw [e1]
    exact looks_items X lT oT (.of_pure e2)
theorem andV_use {ta tb : TE} {σ : L2.St} {H : Hp} {Q : VK} {x y : Bool} (h1 : EI ta σ H (.bl x)) (h2 : x = true → ∀ Q' : VK, (∀ H', Same H H' → Q' (.bl y) H') → tb σ H Q') (k : ∀ H', Same H H' → Q (.bl (x && y)) H') : tAndV ta tb σ H Q := by
  refine h1 H (Same.refl _) _ ⟨x, rfl, ?_⟩
  cases x with
  | true => exact (if_pos rfl).mpr (h2 rfl _ k)
  | false => exact (if_neg Bool.false_ne_true).mpr (k H (Same.refl _))
/-- what is locked and let go stands as it stood -/
theorem unlock {H H' : Hp} {d : Addr} {od : Obj} {u : HO} (e : H d = some u) (s : Same (upd H d (.frz od u)) H') : Same H (upd H' d u) := fun b o h => by
  by_cases hb : b = d
  · subst hb
    rw [upd_same, ← e]
    exact h
  · rw [upd_ne hb]
    exact s b o (by rw [upd_ne hb]; exact h)
theorem take_filter {α : Type} {l : List α} {i : Nat} {x : α} (f : α → Bool) (h : l[i]? = some x) : (l.take (i + 1)).filter f = (l.take i).filter f ++ if f x then [x] else [] := by
  rw [take_more h, List.filter_append]
  cases e : f x <;> simp [e]
/-- [e for k in d if t] over the keys of a dict, t and e change nothing -/
theorem lc_keys {td te : TE} {tt : TT} {s : Nat} {σ : L2.St} {H : Hp} {Q : VK} (d : Addr) (kvs : List (Key × V)) (f : Key → Bool) (g : Key → V) (e : H d = some (.dK kvs)) (hlen : kvs.length ≤ 90000)
    (htd : ∀ od, EI td σ (upd H d (.frz od (.dK kvs))) (.ref d))
    (hw : ∀ x, wipe ((wipe σ [s]).set s (some x)) [s] = wipe σ [s])
    (ht : ∀ (od : Obj) (i : Nat) (k : Key) (v : V) (G : Hp) (Q' : Bool → Hp → Prop), kvs[i]? = some (k, v) → Same (upd H d (.frz od (.dK kvs))) G → Q' (f k) G → tt ((wipe σ [s]).set s (some (kV k))) G Q')
    (he : ∀ (od : Obj) (i : Nat) (k : Key) (v : V) (G : Hp) (Q' : VK), kvs[i]? = some (k, v) → Same (upd H d (.frz od (.dK kvs))) G → Q' (g k) G → te ((wipe σ [s]).set s (some (kV k))) G Q')
    (k : ∀ D H', H D = none → Same H H' → H' D = some (.lst ((kvs.filter fun kv => f kv.1).map fun kv => g kv.1)) → Q (.ref D) H') : tLockE (tLc (iKeys td) (gName s) tt te [s]) σ H Q := by
  refine ⟨d, _, e, trivial, fun od => htd od _ (Same.refl _) _ ⟨d, od, rfl, .inl ⟨kvs, upd_same, fun D hD => ?_⟩⟩⟩
  have nD : D ≠ d := fun z => by rw [z, upd_same] at hD; cases hD
  have hD0 : H D = none := by rw [upd_ne nD] at hD; exact hD
  refine lc_it walk_keys (fun i G => Same (upd H d (.frz od (.dK kvs))) G ∧ G D = some (.lst (((kvs.take i).filter fun kv => f kv.1).map fun kv => g kv.1)))
    ⟨same_upd hD, upd_same⟩ (fun i G _ h => h.1 _ _ upd_same) (fun i x G G' hi hG hy => ?_) (fun G hG => ?_)
  · obtain ⟨rfl, key, v, hkv, rfl⟩ := hy
    have hfl : ((kvs.take i).filter fun kv => f kv.1).length ≤ 90000 := Nat.le_trans (List.length_filter_le _ _) (by rw [List.length_take]; omega)
    refine ⟨hw _, ht od i key v _ _ hkv hG.1 ?_⟩
    have hts := take_filter (fun kv : Key × V => f kv.1) hkv
    cases hf : f key with
    | true =>
      refine (if_pos rfl).mpr (he od i key v _ _ hkv hG.1 ⟨_, hG.2, szl (by rw [List.length_map]; omega), same_put hG.1 hD, ?_⟩)
      rw [upd_same, hts, List.map_append]
      simp only [hf, if_true]
      rfl
    | false =>
      refine (if_neg Bool.false_ne_true).mpr ⟨hG.1, ?_⟩
      rw [hts]
      simp only [hf, Bool.false_eq_true, if_false, List.append_nil]
      exact hG.2
  · rw [List.take_length] at hG
    refine ⟨hG.1 _ _ upd_same, k D _ hD0 (unlock e hG.1) ?_⟩
    rw [upd_ne nD]
    exact hG.2
theorem put_fresh {kvs : List (Key × V)} {k : Key} {v : V} (h : ∀ kv ∈ kvs, kv.1 ≠ k) : putK kvs k v = kvs ++ [(k, v)] := by
  unfold putK
  rw [if_neg]
  intro z
  obtain ⟨kv, hm, hk⟩ := List.any_eq_true.mp z
  exact h kv hm (of_decide_eq_true hk)
theorem nd_ne {α β : Type} {l : List (α × β)} {i : Nat} {x : α × β} (nd : (l.map (·.1)).Nodup) (h : l[i]? = some x) : ∀ y ∈ l.take i, y.1 ≠ x.1 := fun y hy z => by
  obtain ⟨j, hj, rfl⟩ := List.getElem_of_mem hy
  rw [List.length_take] at hj
  rw [List.getElem_take] at z
  obtain ⟨hi, rfl⟩ := List.getElem?_eq_some_iff.mp h
  have e1 : (l.map (·.1))[j]? = some l[i].1 := by rw [List.getElem?_map, List.getElem?_eq_getElem (by omega), ← z]; rfl
  have e2 : (l.map (·.1))[i]? = some l[i].1 := by rw [List.getElem?_map, List.getElem?_eq_getElem hi]; rfl
  have := nd_ix nd e1 e2
  omega
/-- {k: e for k in d if t} over the keys of a dict -/
theorem dc_keys {td tv : TE} {tt : TT} {s : Nat} {σ : L2.St} {H : Hp} {Q : VK} (d : Addr) (kvs : List (Key × V)) (f : Key → Bool) (g : Key × V → V) (e : H d = some (.dK kvs)) (hlen : kvs.length ≤ 90000) (nd : (kvs.map (·.1)).Nodup)
    (htd : ∀ od, EI td σ (upd H d (.frz od (.dK kvs))) (.ref d))
    (hw : ∀ x, wipe ((wipe σ [s]).set s (some x)) [s] = wipe σ [s])
    (ht : ∀ (od : Obj) (i : Nat) (k : Key) (v : V) (G : Hp) (Q' : Bool → Hp → Prop), kvs[i]? = some (k, v) → Same (upd H d (.frz od (.dK kvs))) G → Q' (f k) G → tt ((wipe σ [s]).set s (some (kV k))) G Q')
    (he : ∀ (od : Obj) (i : Nat) (k : Key) (v : V) (G : Hp) (Q' : VK), kvs[i]? = some (k, v) → f k = true → Same (upd H d (.frz od (.dK kvs))) G → Q' (g (k, v)) G → tv ((wipe σ [s]).set s (some (kV k))) G Q')
    (hn : ∀ i, (wipe σ [s]).length = i → s < i)
    (k : ∀ D H', H D = none → Same H H' → H' D = some (.dK ((kvs.filter fun kv => f kv.1).map fun kv => (kv.1, g kv))) → Q (.ref D) H') : tLockE (tDc (iKeys td) (gName s) tt (tVar s) tv [s]) σ H Q := by
  have hs : s < (wipe σ [s]).length := hn _ rfl
  refine ⟨d, _, e, trivial, fun od => htd od _ (Same.refl _) _ ⟨d, od, rfl, .inl ⟨kvs, upd_same, fun D hD => ?_⟩⟩⟩
  have nD : D ≠ d := fun z => by rw [z, upd_same] at hD; cases hD
  have hD0 : H D = none := by rw [upd_ne nD] at hD; exact hD
  let Pv : Nat → Hp → Prop := fun i G => Same (upd H d (.frz od (.dK kvs))) G ∧ G D = some (.dK (((kvs.take i).filter fun kv => f kv.1).map fun kv => (kv.1, g kv)))
  have step : ∀ i x G G', i < kvs.length → Pv i G → (G' = G ∧ ∃ k v, kvs[i]? = some (k, v) ∧ x = kV k) → gName s x (wipe σ [s]) G' fun σ2 H2 => wipe σ2 [s] = wipe σ [s] ∧ tt σ2 H2 fun b H3 =>
      if b = true then tVar s σ2 H3 fun y H4 => tv σ2 H4 fun z H5 => ∃ kvs' k', y = kV k' ∧ H5 D = some (.dK kvs') ∧ kvs'.length < sizeLine ∧ Pv (i + 1) (upd H5 D (.dK (putK kvs' k' z))) else Pv (i + 1) H3 := fun i x G G' hi hG hy => by
    obtain ⟨rfl, key, v, hkv, rfl⟩ := hy
    have hfl : ((kvs.take i).filter fun kv => f kv.1).length ≤ 90000 := Nat.le_trans (List.length_filter_le _ _) (by rw [List.length_take]; omega)
    refine ⟨hw _, ht od i key v _ _ hkv hG.1 ?_⟩
    have hts := take_filter (fun kv : Key × V => f kv.1) hkv
    cases hf : f key with
    | true =>
      refine (if_pos rfl).mpr ⟨kV key, by rw [List.getElem?_set_self hs], he od i key v _ _ hkv hf hG.1 ⟨_, key, rfl, hG.2, szl (by rw [List.length_map]; omega), same_put hG.1 hD, ?_⟩⟩
      rw [upd_same, hts, List.map_append, put_fresh]
      · simp only [hf, if_true]
        rfl
      · intro kv hm
        obtain ⟨y, hy, rfl⟩ := List.mem_map.mp hm
        exact nd_ne nd hkv y (List.mem_filter.mp hy).1
    | false =>
      refine (if_neg Bool.false_ne_true).mpr ⟨hG.1, ?_⟩
      rw [hts]
      simp only [hf, Bool.false_eq_true, if_false, List.append_nil]
      exact hG.2
  refine ⟨fun i m G => m = kvs.length - i ∧ i ≤ kvs.length ∧ Pv i G, ⟨kvs.length, by simp, Nat.zero_le _, same_upd hD, upd_same⟩, ?_⟩
  rintro i m G ⟨rfl, hi, hP⟩
  by_cases hlt : i < kvs.length
  · exact .inr ⟨⟨hP.1 _ _ upd_same, hlt⟩, Pv (i + 1), fun G' p' => ⟨kvs.length - (i + 1), by omega, rfl, hlt, p'⟩, fun x G' y => step i x G G' hlt hP y⟩
  · have ei : i = kvs.length := by omega
    subst ei
    obtain ⟨h1, h2⟩ := hP
    rw [List.take_length] at h2
    refine .inl ⟨⟨h1 _ _ upd_same, Nat.le_refl _⟩, h1 _ _ upd_same, k D _ hD0 (unlock e h1) ?_⟩
    rw [upd_ne nD]
    exact h2
/-! the same within a comprehension -/
section
variable {K : PySem.W.Frag} {X : Cx} {pos : Pos}
theorem pgK_tup {es : List Expr} {k : Nat} {t : TGs} {n : Nat} (hK : X.K = K) (hc : X.calm = true) (h : PGs X es t)
    (hn : (assignEach es X.env).length = n := by rfl) (hst : (assignEach es X.env).findIdx? (·.1) = none := by rfl) : PG X (.Tuple es k pos) (gTup K n t) := by subst hK; exact pg_tup hc h hn hst
theorem opK_in (h : X.K = K) : OpR X (compareOp .In) (rIn K false) := by subst h; exact op_in_seq
theorem opK_notIn (h : X.K = K) : OpR X (compareOp .NotIn) (rIn K true) := by subst h; exact op_notIn_seq
theorem opK_eqD (h : X.K = K) (hu : X.A.units + 64 < cLine) : OpR X (compareOp .Eq) (rEqD K) := by subst h; exact op_eqD hu
theorem opK_neD (h : X.K = K) (hu : X.A.units + 64 < cLine) : OpR X (compareOp .NotEq) (rNeD K) := by subst h; exact op_neD hu
theorem callK_isi (h : X.K = K) : CallR X (.builtin "isinstance") (rIsi K) := by subst h; exact call_isi
theorem slK_tup (h : X.K = K) : SlR X (rSlT K) := by subst h; exact sl_tup
end
end My
local macro_rules | `(tactic| walk_at "go") => `(tactic| try dsimp only [L2.gName, L2.tSeq, L2.tAsg, L2.tNext, L2.tDrop])
namespace My
open PySem PySem.Spec PyProof.Rows L2
def topS (i : Nat) : Stmt := PySem.Challenge.pw_majordomo_k13_refused_records.main.body.getD i (.Pass ⟨0, 0, 0, 0⟩)
abbrev s_has_plain_characters : Stmt := (topS 11)
theorem sc_has_plain_characters : FnScope ["text", "character", "code"] ["text"] (defScope s_has_plain_characters) := ⟨rfl, rfl, rfl, by decide +kernel, rfl, by decide +kernel, by decide +kernel⟩
abbrev s_put_number : Stmt := (topS 14)
theorem sc_put_number : FnScope ["number", "row"] ["number"] (defScope s_put_number) := ⟨rfl, rfl, rfl, by decide +kernel, rfl, by decide +kernel, by decide +kernel⟩
abbrev s_take_number : Stmt := (topS 15)
theorem sc_take_number : FnScope ["row", "index", "number", "shift", "at", "byte"] ["row", "index"] (defScope s_take_number) := ⟨rfl, rfl, rfl, by decide +kernel, rfl, by decide +kernel, by decide +kernel⟩
abbrev s_is_value : Stmt := (topS 29)
theorem sc_is_value : FnScope ["value"] ["value"] (defScope s_is_value) := ⟨rfl, rfl, rfl, by decide +kernel, rfl, by decide +kernel, by decide +kernel⟩
abbrev s__is_value_within : Stmt := (topS 30)
theorem sc__is_value_within : FnScope ["value", "depth", "member"] ["value", "depth"] (defScope s__is_value_within) := ⟨rfl, rfl, rfl, by decide +kernel, rfl, by decide +kernel, by decide +kernel⟩
abbrev s_pack : Stmt := (topS 31)
theorem sc_pack : FnScope ["value"] ["value"] (defScope s_pack) := ⟨rfl, rfl, rfl, by decide +kernel, rfl, by decide +kernel, by decide +kernel⟩
abbrev s__packed : Stmt := (topS 32)
theorem sc__packed : FnScope ["value", "row", "member", "character"] ["value"] (defScope s__packed) := ⟨rfl, rfl, rfl, by decide +kernel, rfl, by decide +kernel, by decide +kernel⟩
abbrev s_unpack : Stmt := (topS 33)
theorem sc_unpack : FnScope ["row", "value", "index"] ["row"] (defScope s_unpack) := ⟨rfl, rfl, rfl, by decide +kernel, rfl, by decide +kernel, by decide +kernel⟩
abbrev s__take_value : Stmt := (topS 34)
theorem sc__take_value : FnScope ["row", "index", "depth", "tag", "number", "after"] ["row", "index", "depth"] (defScope s__take_value) := ⟨rfl, rfl, rfl, by decide +kernel, rfl, by decide +kernel, by decide +kernel⟩
abbrev s__checked_integer : Stmt := (topS 35)
theorem sc__checked_integer : FnScope ["number"] ["number"] (defScope s__checked_integer) := ⟨rfl, rfl, rfl, by decide +kernel, rfl, by decide +kernel, by decide +kernel⟩
abbrev s__take_text : Stmt := (topS 36)
theorem sc__take_text : FnScope ["row", "index", "length", "characters", "at", "byte"] ["row", "index", "length"] (defScope s__take_text) := ⟨rfl, rfl, rfl, by decide +kernel, rfl, by decide +kernel, by decide +kernel⟩
abbrev s__take_members : Stmt := (topS 37)
theorem sc__take_members : FnScope ["row", "index", "length", "depth", "members", "_", "member"] ["row", "index", "length", "depth"] (defScope s__take_members) := ⟨rfl, rfl, rfl, by decide +kernel, rfl, by decide +kernel, by decide +kernel⟩
abbrev s_checksum : Stmt := (topS 40)
theorem sc_checksum : FnScope ["row", "start", "first", "second", "byte"] ["row", "start"] (defScope s_checksum) := ⟨rfl, rfl, rfl, by decide +kernel, rfl, by decide +kernel, by decide +kernel⟩
abbrev s_check_bytes : Stmt := (topS 41)
theorem sc_check_bytes : FnScope ["pair", "first", "second"] ["pair"] (defScope s_check_bytes) := ⟨rfl, rfl, rfl, by decide +kernel, rfl, by decide +kernel, by decide +kernel⟩
abbrev s_make_sector : Stmt := (topS 47)
theorem sc_make_sector : FnScope ["kind", "payload", "body"] ["kind", "payload"] (defScope s_make_sector) := ⟨rfl, rfl, rfl, by decide +kernel, rfl, by decide +kernel, by decide +kernel⟩
abbrev s_read_sector : Stmt := (topS 48)
theorem sc_read_sector : FnScope ["sector", "body", "kind", "length", "filling"] ["sector"] (defScope s_read_sector) := ⟨rfl, rfl, rfl, by decide +kernel, rfl, by decide +kernel, by decide +kernel⟩
abbrev s__piece_count : Stmt := (topS 54)
theorem sc__piece_count : FnScope ["packed"] ["packed"] (defScope s__piece_count) := ⟨rfl, rfl, rfl, by decide +kernel, rfl, by decide +kernel, by decide +kernel⟩
abbrev s__sector_at : Stmt := (topS 55)
theorem sc__sector_at : FnScope ["sectors", "index"] ["sectors", "index"] (defScope s__sector_at) := ⟨rfl, rfl, rfl, by decide +kernel, rfl, by decide +kernel, by decide +kernel⟩
abbrev s__newest_head : Stmt := (topS 56)
theorem sc__newest_head : FnScope ["sectors", "newest", "index", "found", "kind", "payload", "head"] ["sectors"] (defScope s__newest_head) := ⟨rfl, rfl, rfl, by decide +kernel, rfl, by decide +kernel, by decide +kernel⟩
abbrev s__read_part : Stmt := (topS 57)
theorem sc__read_part : FnScope ["sector", "found", "payload", "numbers", "index", "_", "number"] ["sector"] (defScope s__read_part) := ⟨rfl, rfl, rfl, by decide +kernel, rfl, by decide +kernel, by decide +kernel⟩
abbrev s__read_record : Stmt := (topS 58)
theorem sc__read_record : FnScope ["sectors", "at", "generation", "record", "least_boot", "found", "boot", "count", "packed", "part"] ["sectors", "at", "generation", "record", "least_boot"] (defScope s__read_record) := ⟨rfl, rfl, rfl, by decide +kernel, rfl, by decide +kernel, by decide +kernel⟩
abbrev s__part_sector : Stmt := (topS 59)
theorem sc__part_sector : FnScope ["generation", "boot", "record", "part", "packed", "payload", "number"] ["generation", "boot", "record", "part", "packed"] (defScope s__part_sector) := ⟨rfl, rfl, rfl, by decide +kernel, rfl, by decide +kernel, by decide +kernel⟩
abbrev s__part_writes : Stmt := (topS 60)
theorem sc__part_writes : FnScope ["rows", "at", "generation", "boot", "record", "steps", "packed", "part"] ["rows", "at", "generation", "boot", "record"] (defScope s__part_writes) := ⟨rfl, rfl, rfl, by decide +kernel, rfl, by decide +kernel, by decide +kernel⟩
abbrev s_Journal___init__ : Stmt := (inClass (topS 61) 0)
theorem sc_Journal___init__ : FnScope ["self", "sectors", "boot", "generation", "start", "head_boot"] ["self", "sectors", "boot"] (defScope s_Journal___init__) := ⟨rfl, rfl, rfl, by decide +kernel, rfl, by decide +kernel, by decide +kernel⟩
abbrev s_Journal__read_records : Stmt := (inClass (topS 61) 1)
theorem sc_Journal__read_records : FnScope ["self", "sectors", "least_boot", "found", "packed", "after"] ["self", "sectors", "least_boot"] (defScope s_Journal__read_records) := ⟨rfl, rfl, rfl, by decide +kernel, rfl, by decide +kernel, by decide +kernel⟩
abbrev s_Journal_records : Stmt := (inClass (topS 61) 2)
theorem sc_Journal_records : FnScope ["self"] ["self"] (defScope s_Journal_records) := ⟨rfl, rfl, rfl, by decide +kernel, rfl, by decide +kernel, by decide +kernel⟩
abbrev s_Journal_sectors_used : Stmt := (inClass (topS 61) 3)
theorem sc_Journal_sectors_used : FnScope ["self"] ["self"] (defScope s_Journal_sectors_used) := ⟨rfl, rfl, rfl, by decide +kernel, rfl, by decide +kernel, by decide +kernel⟩
abbrev s_Journal_append : Stmt := (inClass (topS 61) 4)
theorem sc_Journal_append : FnScope ["self", "records", "rows", "after", "steps", "record"] ["self", "records"] (defScope s_Journal_append) := ⟨rfl, rfl, rfl, by decide +kernel, rfl, by decide +kernel, by decide +kernel⟩
abbrev s_Journal_rewrite : Stmt := (inClass (topS 61) 5)
theorem sc_Journal_rewrite : FnScope ["self", "records", "rows", "needed", "start", "generation", "steps", "head", "record", "packed"] ["self", "records"] (defScope s_Journal_rewrite) := ⟨rfl, rfl, rfl, by decide +kernel, rfl, by decide +kernel, by decide +kernel⟩
abbrev s__law_draws : Stmt := (topS 63)
theorem sc__law_draws : FnScope ["script", "many", "draws", "mixed", "k", "cell", "rest", "turn"] ["script", "many"] (defScope s__law_draws) := ⟨rfl, rfl, rfl, by decide +kernel, rfl, by decide +kernel, by decide +kernel⟩
abbrev s__law_record : Stmt := (topS 64)
theorem sc__law_record : FnScope ["draws", "kind", "word", "draw"] ["draws"] (defScope s__law_record) := ⟨rfl, rfl, rfl, by decide +kernel, rfl, by decide +kernel, by decide +kernel⟩
abbrev s__law_refused : Stmt := (topS 65)
theorem sc__law_refused : FnScope ["journal", "records", "rewrites", "shown", "used", "e"] ["journal", "records", "rewrites"] (defScope s__law_refused) := ⟨rfl, rfl, rfl, by decide +kernel, rfl, by decide +kernel, by decide +kernel⟩
abbrev s__law_strange : Stmt := (topS 66)
theorem sc__law_strange : FnScope ["draw", "chain", "k"] ["draw"] (defScope s__law_strange) := ⟨rfl, rfl, rfl, by decide +kernel, rfl, by decide +kernel, by decide +kernel⟩
abbrev s_law : Stmt := (topS 67)
theorem sc_law : FnScope ["script", "draws", "journals", "shown", "turn", "part", "which", "records", "rewrites", "at", "strange", "again", "k"] ["script"] (defScope s_law) := ⟨rfl, rfl, rfl, by decide +kernel, rfl, by decide +kernel, by decide +kernel⟩

structure TX (K : PySem.W.Frag) (mg : Str → Option Value) where
  a_MajordomoError : Addr
  g_MajordomoError : mg "MajordomoError" = some (.ref a_MajordomoError)
  x_MajordomoError : PySem.W.excIn K a_MajordomoError [.type "ValueError", .type "Exception", .type "BaseException", .type "object"] "ValueError.__new__" = true
  k_MajordomoError : PySem.W.keepIn K (.ref a_MajordomoError) = true
  s_MajordomoError : PySem.W.subIn K (.ref a_MajordomoError) (.type "BaseException") = some true
  t_MajordomoError : PySem.W.typeIn K (.ref a_MajordomoError) = some (.type "type")
  a_CodecError : Addr
  g_CodecError : mg "CodecError" = some (.ref a_CodecError)
  x_CodecError : PySem.W.excIn K a_CodecError [.type "ValueError", .type "Exception", .type "BaseException", .type "object"] "ValueError.__new__" = true
  k_CodecError : PySem.W.keepIn K (.ref a_CodecError) = true
  s_CodecError : PySem.W.subIn K (.ref a_CodecError) (.type "BaseException") = some true
  t_CodecError : PySem.W.typeIn K (.ref a_CodecError) = some (.type "type")
  a_Truncated : Addr
  g_Truncated : mg "Truncated" = some (.ref a_Truncated)
  x_Truncated : PySem.W.excIn K a_Truncated [.type "ValueError", .type "Exception", .type "BaseException", .type "object"] "ValueError.__new__" = true
  k_Truncated : PySem.W.keepIn K (.ref a_Truncated) = true
  s_Truncated : PySem.W.subIn K (.ref a_Truncated) (.type "BaseException") = some true
  t_Truncated : PySem.W.typeIn K (.ref a_Truncated) = some (.type "type")
  a_Malformed : Addr
  g_Malformed : mg "Malformed" = some (.ref a_Malformed)
  x_Malformed : PySem.W.excIn K a_Malformed [.type "ValueError", .type "Exception", .type "BaseException", .type "object"] "ValueError.__new__" = true
  k_Malformed : PySem.W.keepIn K (.ref a_Malformed) = true
  s_Malformed : PySem.W.subIn K (.ref a_Malformed) (.type "BaseException") = some true
  t_Malformed : PySem.W.typeIn K (.ref a_Malformed) = some (.type "type")
  a_Damaged : Addr
  g_Damaged : mg "Damaged" = some (.ref a_Damaged)
  x_Damaged : PySem.W.excIn K a_Damaged [.type "ValueError", .type "Exception", .type "BaseException", .type "object"] "ValueError.__new__" = true
  k_Damaged : PySem.W.keepIn K (.ref a_Damaged) = true
  s_Damaged : PySem.W.subIn K (.ref a_Damaged) (.type "BaseException") = some true
  t_Damaged : PySem.W.typeIn K (.ref a_Damaged) = some (.type "type")
  a_NotAValue : Addr
  g_NotAValue : mg "NotAValue" = some (.ref a_NotAValue)
  x_NotAValue : PySem.W.excIn K a_NotAValue [.type "ValueError", .type "Exception", .type "BaseException", .type "object"] "ValueError.__new__" = true
  k_NotAValue : PySem.W.keepIn K (.ref a_NotAValue) = true
  s_NotAValue : PySem.W.subIn K (.ref a_NotAValue) (.type "BaseException") = some true
  t_NotAValue : PySem.W.typeIn K (.ref a_NotAValue) = some (.type "type")
  ee_NotAValue : PySem.W.exmOne K (.ref a_NotAValue) (.ref a_NotAValue) = some true
  a_Journal : Addr
  X_NotAValue : ExcC K a_NotAValue
  y_NotAValue_Malformed : PySem.W.kitOne K (.ref a_NotAValue) (.ref a_Malformed) = some false
  y_NotAValue_CodecError : PySem.W.kitOne K (.ref a_NotAValue) (.ref a_CodecError) = some true
  a_has_plain_characters : Addr
  d_has_plain_characters : FuncData
  F_has_plain_characters : Fun K "has_plain_characters" "has_plain_characters" s_has_plain_characters a_has_plain_characters d_has_plain_characters
  b_has_plain_characters : Binds K d_has_plain_characters ["text"] []
  g_has_plain_characters : mg "has_plain_characters" = some (.ref a_has_plain_characters)
  a_put_number : Addr
  d_put_number : FuncData
  F_put_number : Fun K "put_number" "put_number" s_put_number a_put_number d_put_number
  b_put_number : Binds K d_put_number ["number"] []
  g_put_number : mg "put_number" = some (.ref a_put_number)
  a_take_number : Addr
  d_take_number : FuncData
  F_take_number : Fun K "take_number" "take_number" s_take_number a_take_number d_take_number
  b_take_number : Binds K d_take_number ["row", "index"] []
  g_take_number : mg "take_number" = some (.ref a_take_number)
  a_is_value : Addr
  d_is_value : FuncData
  F_is_value : Fun K "is_value" "is_value" s_is_value a_is_value d_is_value
  b_is_value : Binds K d_is_value ["value"] []
  g_is_value : mg "is_value" = some (.ref a_is_value)
  a__is_value_within : Addr
  d__is_value_within : FuncData
  F__is_value_within : Fun K "_is_value_within" "_is_value_within" s__is_value_within a__is_value_within d__is_value_within
  b__is_value_within : Binds K d__is_value_within ["value", "depth"] []
  g__is_value_within : mg "_is_value_within" = some (.ref a__is_value_within)
  a_pack : Addr
  d_pack : FuncData
  F_pack : Fun K "pack" "pack" s_pack a_pack d_pack
  b_pack : Binds K d_pack ["value"] []
  g_pack : mg "pack" = some (.ref a_pack)
  a__packed : Addr
  d__packed : FuncData
  F__packed : Fun K "_packed" "_packed" s__packed a__packed d__packed
  b__packed : Binds K d__packed ["value"] []
  g__packed : mg "_packed" = some (.ref a__packed)
  a_unpack : Addr
  d_unpack : FuncData
  F_unpack : Fun K "unpack" "unpack" s_unpack a_unpack d_unpack
  b_unpack : Binds K d_unpack ["row"] []
  g_unpack : mg "unpack" = some (.ref a_unpack)
  a__take_value : Addr
  d__take_value : FuncData
  F__take_value : Fun K "_take_value" "_take_value" s__take_value a__take_value d__take_value
  b__take_value : Binds K d__take_value ["row", "index", "depth"] []
  g__take_value : mg "_take_value" = some (.ref a__take_value)
  a__checked_integer : Addr
  d__checked_integer : FuncData
  F__checked_integer : Fun K "_checked_integer" "_checked_integer" s__checked_integer a__checked_integer d__checked_integer
  b__checked_integer : Binds K d__checked_integer ["number"] []
  g__checked_integer : mg "_checked_integer" = some (.ref a__checked_integer)
  a__take_text : Addr
  d__take_text : FuncData
  F__take_text : Fun K "_take_text" "_take_text" s__take_text a__take_text d__take_text
  b__take_text : Binds K d__take_text ["row", "index", "length"] []
  g__take_text : mg "_take_text" = some (.ref a__take_text)
  a__take_members : Addr
  d__take_members : FuncData
  F__take_members : Fun K "_take_members" "_take_members" s__take_members a__take_members d__take_members
  b__take_members : Binds K d__take_members ["row", "index", "length", "depth"] []
  g__take_members : mg "_take_members" = some (.ref a__take_members)
  a_checksum : Addr
  d_checksum : FuncData
  da_checksum_0 : Addr
  dq_checksum_0 : ∀ H, SqT K H da_checksum_0 [(.int 1), (.int 1)]
  FD_checksum : FunD K "checksum" "checksum" (defArgs s_checksum) (defBody s_checksum) (defScope s_checksum) [.ref da_checksum_0] [] a_checksum d_checksum
  bD_checksum_1 : ∃ ds, Vals (([.ref da_checksum_0] : List V).drop 0) ds ∧ Binds K d_checksum ["row", "start"] ds
  bD_checksum_2 : ∃ ds, Vals (([.ref da_checksum_0] : List V).drop 1) ds ∧ Binds K d_checksum ["row", "start"] ds
  g_checksum : mg "checksum" = some (.ref a_checksum)
  a_check_bytes : Addr
  d_check_bytes : FuncData
  F_check_bytes : Fun K "check_bytes" "check_bytes" s_check_bytes a_check_bytes d_check_bytes
  b_check_bytes : Binds K d_check_bytes ["pair"] []
  g_check_bytes : mg "check_bytes" = some (.ref a_check_bytes)
  a_make_sector : Addr
  d_make_sector : FuncData
  F_make_sector : Fun K "make_sector" "make_sector" s_make_sector a_make_sector d_make_sector
  b_make_sector : Binds K d_make_sector ["kind", "payload"] []
  g_make_sector : mg "make_sector" = some (.ref a_make_sector)
  a_read_sector : Addr
  d_read_sector : FuncData
  F_read_sector : Fun K "read_sector" "read_sector" s_read_sector a_read_sector d_read_sector
  b_read_sector : Binds K d_read_sector ["sector"] []
  g_read_sector : mg "read_sector" = some (.ref a_read_sector)
  a__piece_count : Addr
  d__piece_count : FuncData
  F__piece_count : Fun K "_piece_count" "_piece_count" s__piece_count a__piece_count d__piece_count
  b__piece_count : Binds K d__piece_count ["packed"] []
  g__piece_count : mg "_piece_count" = some (.ref a__piece_count)
  a__sector_at : Addr
  d__sector_at : FuncData
  F__sector_at : Fun K "_sector_at" "_sector_at" s__sector_at a__sector_at d__sector_at
  b__sector_at : Binds K d__sector_at ["sectors", "index"] []
  g__sector_at : mg "_sector_at" = some (.ref a__sector_at)
  a__newest_head : Addr
  d__newest_head : FuncData
  F__newest_head : Fun K "_newest_head" "_newest_head" s__newest_head a__newest_head d__newest_head
  b__newest_head : Binds K d__newest_head ["sectors"] []
  g__newest_head : mg "_newest_head" = some (.ref a__newest_head)
  a__read_part : Addr
  d__read_part : FuncData
  F__read_part : Fun K "_read_part" "_read_part" s__read_part a__read_part d__read_part
  b__read_part : Binds K d__read_part ["sector"] []
  g__read_part : mg "_read_part" = some (.ref a__read_part)
  a__read_record : Addr
  d__read_record : FuncData
  F__read_record : Fun K "_read_record" "_read_record" s__read_record a__read_record d__read_record
  b__read_record : Binds K d__read_record ["sectors", "at", "generation", "record", "least_boot"] []
  g__read_record : mg "_read_record" = some (.ref a__read_record)
  a__part_sector : Addr
  d__part_sector : FuncData
  F__part_sector : Fun K "_part_sector" "_part_sector" s__part_sector a__part_sector d__part_sector
  b__part_sector : Binds K d__part_sector ["generation", "boot", "record", "part", "packed"] []
  g__part_sector : mg "_part_sector" = some (.ref a__part_sector)
  a__part_writes : Addr
  d__part_writes : FuncData
  F__part_writes : Fun K "_part_writes" "_part_writes" s__part_writes a__part_writes d__part_writes
  b__part_writes : Binds K d__part_writes ["rows", "at", "generation", "boot", "record"] []
  g__part_writes : mg "_part_writes" = some (.ref a__part_writes)
  a_Journal___init__ : Addr
  d_Journal___init__ : FuncData
  F_Journal___init__ : Fun K "__init__" "Journal.__init__" s_Journal___init__ a_Journal___init__ d_Journal___init__
  b_Journal___init__ : Binds K d_Journal___init__ ["self", "sectors", "boot"] []
  a_Journal__read_records : Addr
  d_Journal__read_records : FuncData
  F_Journal__read_records : Fun K "_read_records" "Journal._read_records" s_Journal__read_records a_Journal__read_records d_Journal__read_records
  b_Journal__read_records : Binds K d_Journal__read_records ["self", "sectors", "least_boot"] []
  m_Journal__read_records : Meth K a_Journal "_read_records" a_Journal__read_records
  a_Journal_records : Addr
  d_Journal_records : FuncData
  F_Journal_records : Fun K "records" "Journal.records" s_Journal_records a_Journal_records d_Journal_records
  b_Journal_records : Binds K d_Journal_records ["self"] []
  m_Journal_records : Meth K a_Journal "records" a_Journal_records
  a_Journal_sectors_used : Addr
  d_Journal_sectors_used : FuncData
  F_Journal_sectors_used : Fun K "sectors_used" "Journal.sectors_used" s_Journal_sectors_used a_Journal_sectors_used d_Journal_sectors_used
  b_Journal_sectors_used : Binds K d_Journal_sectors_used ["self"] []
  m_Journal_sectors_used : Meth K a_Journal "sectors_used" a_Journal_sectors_used
  a_Journal_append : Addr
  d_Journal_append : FuncData
  F_Journal_append : Fun K "append" "Journal.append" s_Journal_append a_Journal_append d_Journal_append
  b_Journal_append : Binds K d_Journal_append ["self", "records"] []
  m_Journal_append : Meth K a_Journal "append" a_Journal_append
  a_Journal_rewrite : Addr
  d_Journal_rewrite : FuncData
  F_Journal_rewrite : Fun K "rewrite" "Journal.rewrite" s_Journal_rewrite a_Journal_rewrite d_Journal_rewrite
  b_Journal_rewrite : Binds K d_Journal_rewrite ["self", "records"] []
  m_Journal_rewrite : Meth K a_Journal "rewrite" a_Journal_rewrite
  a__law_draws : Addr
  d__law_draws : FuncData
  F__law_draws : Fun K "_law_draws" "_law_draws" s__law_draws a__law_draws d__law_draws
  b__law_draws : Binds K d__law_draws ["script", "many"] []
  g__law_draws : mg "_law_draws" = some (.ref a__law_draws)
  a__law_record : Addr
  d__law_record : FuncData
  F__law_record : Fun K "_law_record" "_law_record" s__law_record a__law_record d__law_record
  b__law_record : Binds K d__law_record ["draws"] []
  g__law_record : mg "_law_record" = some (.ref a__law_record)
  a__law_refused : Addr
  d__law_refused : FuncData
  F__law_refused : Fun K "_law_refused" "_law_refused" s__law_refused a__law_refused d__law_refused
  b__law_refused : Binds K d__law_refused ["journal", "records", "rewrites"] []
  g__law_refused : mg "_law_refused" = some (.ref a__law_refused)
  a__law_strange : Addr
  d__law_strange : FuncData
  F__law_strange : Fun K "_law_strange" "_law_strange" s__law_strange a__law_strange d__law_strange
  b__law_strange : Binds K d__law_strange ["draw"] []
  g__law_strange : mg "_law_strange" = some (.ref a__law_strange)
  a_law : Addr
  d_law : FuncData
  F_law : Fun K "law" "law" s_law a_law d_law
  b_law : Binds K d_law ["script"] []
  g_law : mg "law" = some (.ref a_law)
  K_Journal : Cls K a_Journal
  g_Journal : mg "Journal" = some (.ref a_Journal)
  M_Journal : Mk K a_Journal a_Journal___init__
  na_Journal__boot : NoAttr K a_Journal "_boot"
  na_Journal__generation : NoAttr K a_Journal "_generation"
  na_Journal__start : NoAttr K a_Journal "_start"
  na_Journal__used : NoAttr K a_Journal "_used"
  na_Journal__records : NoAttr K a_Journal "_records"
  t_SPACE : Tok
  c_SPACE : mg "SPACE" = some (.int 32 t_SPACE)
  t_PERCENT : Tok
  c_PERCENT : mg "PERCENT" = some (.int 37 t_PERCENT)
  t_TILDE : Tok
  c_TILDE : mg "TILDE" = some (.int 126 t_TILDE)
  t_MOST_BYTES : Tok
  c_MOST_BYTES : mg "MOST_BYTES" = some (.int 500 t_MOST_BYTES)
  t_MOST_BITS : Tok
  c_MOST_BITS : mg "MOST_BITS" = some (.int 3000 t_MOST_BITS)
  t_MOST_LENGTH : Tok
  c_MOST_LENGTH : mg "MOST_LENGTH" = some (.int 60000 t_MOST_LENGTH)
  t_MOST_DEPTH : Tok
  c_MOST_DEPTH : mg "MOST_DEPTH" = some (.int 20 t_MOST_DEPTH)
  t_FALSE_TAG : Tok
  c_FALSE_TAG : mg "FALSE_TAG" = some (.int 1 t_FALSE_TAG)
  t_TRUE_TAG : Tok
  c_TRUE_TAG : mg "TRUE_TAG" = some (.int 2 t_TRUE_TAG)
  t_NATURAL_TAG : Tok
  c_NATURAL_TAG : mg "NATURAL_TAG" = some (.int 3 t_NATURAL_TAG)
  t_NEGATIVE_TAG : Tok
  c_NEGATIVE_TAG : mg "NEGATIVE_TAG" = some (.int 4 t_NEGATIVE_TAG)
  t_TEXT_TAG : Tok
  c_TEXT_TAG : mg "TEXT_TAG" = some (.int 5 t_TEXT_TAG)
  t_TUPLE_TAG : Tok
  c_TUPLE_TAG : mg "TUPLE_TAG" = some (.int 6 t_TUPLE_TAG)
  ca_CONSTANTS : Addr
  c_CONSTANTS : mg "CONSTANTS" = some (.ref ca_CONSTANTS)
  q_CONSTANTS : ∀ H, SqT K H ca_CONSTANTS [.non, (.bl false), (.bl true)]
  t_CHARACTERS : Tok
  c_CHARACTERS : mg "CHARACTERS" = some (.str " !\"#$ &'()*+,-./0123456789:;<=>?@ABCDEFGHIJKLMNOPQRSTUVWXYZ[\\]^_`abcdefghijklmnopqrstuvwxyz{|}~" t_CHARACTERS)
  t_PERCENT_BYTE : Tok
  c_PERCENT_BYTE : mg "PERCENT_BYTE" = some (.int 5 t_PERCENT_BYTE)
  t_MODULUS : Tok
  c_MODULUS : mg "MODULUS" = some (.int 65521 t_MODULUS)
  t_PAYLOAD : Tok
  c_PAYLOAD : mg "PAYLOAD" = some (.int 58 t_PAYLOAD)
  ca_BLANK : Addr
  c_BLANK : mg "BLANK" = some (.ref ca_BLANK)
  q_BLANK : ∀ H, SqT K H ca_BLANK [(.int 0), (.int 0), (.int 0), (.int 0), (.int 0), (.int 0), (.int 0), (.int 0), (.int 0), (.int 0), (.int 0), (.int 0), (.int 0), (.int 0), (.int 0), (.int 0), (.int 0), (.int 0), (.int 0), (.int 0), (.int 0), (.int 0), (.int 0), (.int 0), (.int 0), (.int 0), (.int 0), (.int 0), (.int 0), (.int 0), (.int 0), (.int 0), (.int 0), (.int 0), (.int 0), (.int 0), (.int 0), (.int 0), (.int 0), (.int 0), (.int 0), (.int 0), (.int 0), (.int 0), (.int 0), (.int 0), (.int 0), (.int 0), (.int 0), (.int 0), (.int 0), (.int 0), (.int 0), (.int 0), (.int 0), (.int 0), (.int 0), (.int 0), (.int 0), (.int 0), (.int 0), (.int 0), (.int 0), (.int 0)]
  t_CHECK_BYTES : Tok
  c_CHECK_BYTES : mg "CHECK_BYTES" = some (.int 4 t_CHECK_BYTES)
  t_MOST_KIND : Tok
  c_MOST_KIND : mg "MOST_KIND" = some (.int 9 t_MOST_KIND)
  t_HEAD_KIND : Tok
  c_HEAD_KIND : mg "HEAD_KIND" = some (.int 1 t_HEAD_KIND)
  t_PART_KIND : Tok
  c_PART_KIND : mg "PART_KIND" = some (.int 2 t_PART_KIND)
  t_PIECE : Tok
  c_PIECE : mg "PIECE" = some (.int 40 t_PIECE)
  t_FIRST_START : Tok
  c_FIRST_START : mg "FIRST_START" = some (.int 2 t_FIRST_START)
  n_range : mg "range" = none
  n_min : mg "min" = none
  n_len : mg "len" = none
  n_ord : mg "ord" = none
  n_isinstance : mg "isinstance" = none
  n_bool : mg "bool" = none
  n_int : mg "int" = none
  n_str : mg "str" = none
  n_tuple : mg "tuple" = none
  n_abs : mg "abs" = none
  n_list : mg "list" = none
  n_sum : mg "sum" = none

theorem ne_Journal__boot__generation : (Str.ofString "_boot" == Str.ofString "_generation") = false := by decide +kernel
theorem ne_Journal__boot__generation_p : ¬ (Str.ofString "_boot" = Str.ofString "_generation") := by decide +kernel
theorem ne_Journal__boot__start : (Str.ofString "_boot" == Str.ofString "_start") = false := by decide +kernel
theorem ne_Journal__boot__start_p : ¬ (Str.ofString "_boot" = Str.ofString "_start") := by decide +kernel
theorem ne_Journal__boot__used : (Str.ofString "_boot" == Str.ofString "_used") = false := by decide +kernel
theorem ne_Journal__boot__used_p : ¬ (Str.ofString "_boot" = Str.ofString "_used") := by decide +kernel
theorem ne_Journal__boot__records : (Str.ofString "_boot" == Str.ofString "_records") = false := by decide +kernel
theorem ne_Journal__boot__records_p : ¬ (Str.ofString "_boot" = Str.ofString "_records") := by decide +kernel
theorem ne_Journal__generation__boot : (Str.ofString "_generation" == Str.ofString "_boot") = false := by decide +kernel
theorem ne_Journal__generation__boot_p : ¬ (Str.ofString "_generation" = Str.ofString "_boot") := by decide +kernel
theorem ne_Journal__generation__start : (Str.ofString "_generation" == Str.ofString "_start") = false := by decide +kernel
theorem ne_Journal__generation__start_p : ¬ (Str.ofString "_generation" = Str.ofString "_start") := by decide +kernel
theorem ne_Journal__generation__used : (Str.ofString "_generation" == Str.ofString "_used") = false := by decide +kernel
theorem ne_Journal__generation__used_p : ¬ (Str.ofString "_generation" = Str.ofString "_used") := by decide +kernel
theorem ne_Journal__generation__records : (Str.ofString "_generation" == Str.ofString "_records") = false := by decide +kernel
theorem ne_Journal__generation__records_p : ¬ (Str.ofString "_generation" = Str.ofString "_records") := by decide +kernel
theorem ne_Journal__start__boot : (Str.ofString "_start" == Str.ofString "_boot") = false := by decide +kernel
theorem ne_Journal__start__boot_p : ¬ (Str.ofString "_start" = Str.ofString "_boot") := by decide +kernel
theorem ne_Journal__start__generation : (Str.ofString "_start" == Str.ofString "_generation") = false := by decide +kernel
theorem ne_Journal__start__generation_p : ¬ (Str.ofString "_start" = Str.ofString "_generation") := by decide +kernel
theorem ne_Journal__start__used : (Str.ofString "_start" == Str.ofString "_used") = false := by decide +kernel
theorem ne_Journal__start__used_p : ¬ (Str.ofString "_start" = Str.ofString "_used") := by decide +kernel
theorem ne_Journal__start__records : (Str.ofString "_start" == Str.ofString "_records") = false := by decide +kernel
theorem ne_Journal__start__records_p : ¬ (Str.ofString "_start" = Str.ofString "_records") := by decide +kernel
theorem ne_Journal__used__boot : (Str.ofString "_used" == Str.ofString "_boot") = false := by decide +kernel
theorem ne_Journal__used__boot_p : ¬ (Str.ofString "_used" = Str.ofString "_boot") := by decide +kernel
theorem ne_Journal__used__generation : (Str.ofString "_used" == Str.ofString "_generation") = false := by decide +kernel
theorem ne_Journal__used__generation_p : ¬ (Str.ofString "_used" = Str.ofString "_generation") := by decide +kernel
theorem ne_Journal__used__start : (Str.ofString "_used" == Str.ofString "_start") = false := by decide +kernel
theorem ne_Journal__used__start_p : ¬ (Str.ofString "_used" = Str.ofString "_start") := by decide +kernel
theorem ne_Journal__used__records : (Str.ofString "_used" == Str.ofString "_records") = false := by decide +kernel
theorem ne_Journal__used__records_p : ¬ (Str.ofString "_used" = Str.ofString "_records") := by decide +kernel
theorem ne_Journal__records__boot : (Str.ofString "_records" == Str.ofString "_boot") = false := by decide +kernel
theorem ne_Journal__records__boot_p : ¬ (Str.ofString "_records" = Str.ofString "_boot") := by decide +kernel
theorem ne_Journal__records__generation : (Str.ofString "_records" == Str.ofString "_generation") = false := by decide +kernel
theorem ne_Journal__records__generation_p : ¬ (Str.ofString "_records" = Str.ofString "_generation") := by decide +kernel
theorem ne_Journal__records__start : (Str.ofString "_records" == Str.ofString "_start") = false := by decide +kernel
theorem ne_Journal__records__start_p : ¬ (Str.ofString "_records" = Str.ofString "_start") := by decide +kernel
theorem ne_Journal__records__used : (Str.ofString "_records" == Str.ofString "_used") = false := by decide +kernel
theorem ne_Journal__records__used_p : ¬ (Str.ofString "_records" = Str.ofString "_used") := by decide +kernel
theorem ne_Journal__read_records__boot : (Str.ofString "_read_records" == Str.ofString "_boot") = false := by decide +kernel
theorem ne_Journal__read_records__boot_p : ¬ (Str.ofString "_read_records" = Str.ofString "_boot") := by decide +kernel
theorem ne_Journal__read_records__generation : (Str.ofString "_read_records" == Str.ofString "_generation") = false := by decide +kernel
theorem ne_Journal__read_records__generation_p : ¬ (Str.ofString "_read_records" = Str.ofString "_generation") := by decide +kernel
theorem ne_Journal__read_records__start : (Str.ofString "_read_records" == Str.ofString "_start") = false := by decide +kernel
theorem ne_Journal__read_records__start_p : ¬ (Str.ofString "_read_records" = Str.ofString "_start") := by decide +kernel
theorem ne_Journal__read_records__used : (Str.ofString "_read_records" == Str.ofString "_used") = false := by decide +kernel
theorem ne_Journal__read_records__used_p : ¬ (Str.ofString "_read_records" = Str.ofString "_used") := by decide +kernel
theorem ne_Journal__read_records__records : (Str.ofString "_read_records" == Str.ofString "_records") = false := by decide +kernel
theorem ne_Journal__read_records__records_p : ¬ (Str.ofString "_read_records" = Str.ofString "_records") := by decide +kernel
theorem ne_Journal_records__boot : (Str.ofString "records" == Str.ofString "_boot") = false := by decide +kernel
theorem ne_Journal_records__boot_p : ¬ (Str.ofString "records" = Str.ofString "_boot") := by decide +kernel
theorem ne_Journal_records__generation : (Str.ofString "records" == Str.ofString "_generation") = false := by decide +kernel
theorem ne_Journal_records__generation_p : ¬ (Str.ofString "records" = Str.ofString "_generation") := by decide +kernel
theorem ne_Journal_records__start : (Str.ofString "records" == Str.ofString "_start") = false := by decide +kernel
theorem ne_Journal_records__start_p : ¬ (Str.ofString "records" = Str.ofString "_start") := by decide +kernel
theorem ne_Journal_records__used : (Str.ofString "records" == Str.ofString "_used") = false := by decide +kernel
theorem ne_Journal_records__used_p : ¬ (Str.ofString "records" = Str.ofString "_used") := by decide +kernel
theorem ne_Journal_records__records : (Str.ofString "records" == Str.ofString "_records") = false := by decide +kernel
theorem ne_Journal_records__records_p : ¬ (Str.ofString "records" = Str.ofString "_records") := by decide +kernel
theorem ne_Journal_sectors_used__boot : (Str.ofString "sectors_used" == Str.ofString "_boot") = false := by decide +kernel
theorem ne_Journal_sectors_used__boot_p : ¬ (Str.ofString "sectors_used" = Str.ofString "_boot") := by decide +kernel
theorem ne_Journal_sectors_used__generation : (Str.ofString "sectors_used" == Str.ofString "_generation") = false := by decide +kernel
theorem ne_Journal_sectors_used__generation_p : ¬ (Str.ofString "sectors_used" = Str.ofString "_generation") := by decide +kernel
theorem ne_Journal_sectors_used__start : (Str.ofString "sectors_used" == Str.ofString "_start") = false := by decide +kernel
theorem ne_Journal_sectors_used__start_p : ¬ (Str.ofString "sectors_used" = Str.ofString "_start") := by decide +kernel
theorem ne_Journal_sectors_used__used : (Str.ofString "sectors_used" == Str.ofString "_used") = false := by decide +kernel
theorem ne_Journal_sectors_used__used_p : ¬ (Str.ofString "sectors_used" = Str.ofString "_used") := by decide +kernel
theorem ne_Journal_sectors_used__records : (Str.ofString "sectors_used" == Str.ofString "_records") = false := by decide +kernel
theorem ne_Journal_sectors_used__records_p : ¬ (Str.ofString "sectors_used" = Str.ofString "_records") := by decide +kernel
theorem ne_Journal_append__boot : (Str.ofString "append" == Str.ofString "_boot") = false := by decide +kernel
theorem ne_Journal_append__boot_p : ¬ (Str.ofString "append" = Str.ofString "_boot") := by decide +kernel
theorem ne_Journal_append__generation : (Str.ofString "append" == Str.ofString "_generation") = false := by decide +kernel
theorem ne_Journal_append__generation_p : ¬ (Str.ofString "append" = Str.ofString "_generation") := by decide +kernel
theorem ne_Journal_append__start : (Str.ofString "append" == Str.ofString "_start") = false := by decide +kernel
theorem ne_Journal_append__start_p : ¬ (Str.ofString "append" = Str.ofString "_start") := by decide +kernel
theorem ne_Journal_append__used : (Str.ofString "append" == Str.ofString "_used") = false := by decide +kernel
theorem ne_Journal_append__used_p : ¬ (Str.ofString "append" = Str.ofString "_used") := by decide +kernel
theorem ne_Journal_append__records : (Str.ofString "append" == Str.ofString "_records") = false := by decide +kernel
theorem ne_Journal_append__records_p : ¬ (Str.ofString "append" = Str.ofString "_records") := by decide +kernel
theorem ne_Journal_rewrite__boot : (Str.ofString "rewrite" == Str.ofString "_boot") = false := by decide +kernel
theorem ne_Journal_rewrite__boot_p : ¬ (Str.ofString "rewrite" = Str.ofString "_boot") := by decide +kernel
theorem ne_Journal_rewrite__generation : (Str.ofString "rewrite" == Str.ofString "_generation") = false := by decide +kernel
theorem ne_Journal_rewrite__generation_p : ¬ (Str.ofString "rewrite" = Str.ofString "_generation") := by decide +kernel
theorem ne_Journal_rewrite__start : (Str.ofString "rewrite" == Str.ofString "_start") = false := by decide +kernel
theorem ne_Journal_rewrite__start_p : ¬ (Str.ofString "rewrite" = Str.ofString "_start") := by decide +kernel
theorem ne_Journal_rewrite__used : (Str.ofString "rewrite" == Str.ofString "_used") = false := by decide +kernel
theorem ne_Journal_rewrite__used_p : ¬ (Str.ofString "rewrite" = Str.ofString "_used") := by decide +kernel
theorem ne_Journal_rewrite__records : (Str.ofString "rewrite" == Str.ofString "_records") = false := by decide +kernel
theorem ne_Journal_rewrite__records_p : ¬ (Str.ofString "rewrite" = Str.ofString "_records") := by decide +kernel
/-- the attributes of a Journal, in the order in which they are stored -/
def fl_Journal (v0 v1 v2 v3 v4 : V) : List (Str × V) := [("_boot", v0), ("_generation", v1), ("_start", v2), ("_used", v3), ("_records", v4)]
theorem fl_Journal__boot {v0 v1 v2 v3 v4 : V} : (fl_Journal v0 v1 v2 v3 v4).lookup ("_boot" : Str) = some v0 := by unfold fl_Journal; simp [List.lookup, ne_Journal__boot__generation, ne_Journal__boot__start, ne_Journal__boot__used, ne_Journal__boot__records, ne_Journal__generation__boot, ne_Journal__generation__start, ne_Journal__generation__used, ne_Journal__generation__records, ne_Journal__start__boot, ne_Journal__start__generation, ne_Journal__start__used, ne_Journal__start__records, ne_Journal__used__boot, ne_Journal__used__generation, ne_Journal__used__start, ne_Journal__used__records, ne_Journal__records__boot, ne_Journal__records__generation, ne_Journal__records__start, ne_Journal__records__used, ne_Journal__read_records__boot, ne_Journal__read_records__generation, ne_Journal__read_records__start, ne_Journal__read_records__used, ne_Journal__read_records__records, ne_Journal_records__boot, ne_Journal_records__generation, ne_Journal_records__start, ne_Journal_records__used, ne_Journal_records__records, ne_Journal_sectors_used__boot, ne_Journal_sectors_used__generation, ne_Journal_sectors_used__start, ne_Journal_sectors_used__used, ne_Journal_sectors_used__records, ne_Journal_append__boot, ne_Journal_append__generation, ne_Journal_append__start, ne_Journal_append__used, ne_Journal_append__records, ne_Journal_rewrite__boot, ne_Journal_rewrite__generation, ne_Journal_rewrite__start, ne_Journal_rewrite__used, ne_Journal_rewrite__records, ne_Journal__boot__generation_p, ne_Journal__boot__start_p, ne_Journal__boot__used_p, ne_Journal__boot__records_p, ne_Journal__generation__boot_p, ne_Journal__generation__start_p, ne_Journal__generation__used_p, ne_Journal__generation__records_p, ne_Journal__start__boot_p, ne_Journal__start__generation_p, ne_Journal__start__used_p, ne_Journal__start__records_p, ne_Journal__used__boot_p, ne_Journal__used__generation_p, ne_Journal__used__start_p, ne_Journal__used__records_p, ne_Journal__records__boot_p, ne_Journal__records__generation_p, ne_Journal__records__start_p, ne_Journal__records__used_p, ne_Journal__read_records__boot_p, ne_Journal__read_records__generation_p, ne_Journal__read_records__start_p, ne_Journal__read_records__used_p, ne_Journal__read_records__records_p, ne_Journal_records__boot_p, ne_Journal_records__generation_p, ne_Journal_records__start_p, ne_Journal_records__used_p, ne_Journal_records__records_p, ne_Journal_sectors_used__boot_p, ne_Journal_sectors_used__generation_p, ne_Journal_sectors_used__start_p, ne_Journal_sectors_used__used_p, ne_Journal_sectors_used__records_p, ne_Journal_append__boot_p, ne_Journal_append__generation_p, ne_Journal_append__start_p, ne_Journal_append__used_p, ne_Journal_append__records_p, ne_Journal_rewrite__boot_p, ne_Journal_rewrite__generation_p, ne_Journal_rewrite__start_p, ne_Journal_rewrite__used_p, ne_Journal_rewrite__records_p]
theorem pf_Journal__boot {v0 v1 v2 v3 v4 x : V} : putF ("_boot" : Str) x (fl_Journal v0 v1 v2 v3 v4) = fl_Journal x v1 v2 v3 v4 := by unfold fl_Journal; simp [putF, ne_Journal__boot__generation, ne_Journal__boot__start, ne_Journal__boot__used, ne_Journal__boot__records, ne_Journal__generation__boot, ne_Journal__generation__start, ne_Journal__generation__used, ne_Journal__generation__records, ne_Journal__start__boot, ne_Journal__start__generation, ne_Journal__start__used, ne_Journal__start__records, ne_Journal__used__boot, ne_Journal__used__generation, ne_Journal__used__start, ne_Journal__used__records, ne_Journal__records__boot, ne_Journal__records__generation, ne_Journal__records__start, ne_Journal__records__used, ne_Journal__read_records__boot, ne_Journal__read_records__generation, ne_Journal__read_records__start, ne_Journal__read_records__used, ne_Journal__read_records__records, ne_Journal_records__boot, ne_Journal_records__generation, ne_Journal_records__start, ne_Journal_records__used, ne_Journal_records__records, ne_Journal_sectors_used__boot, ne_Journal_sectors_used__generation, ne_Journal_sectors_used__start, ne_Journal_sectors_used__used, ne_Journal_sectors_used__records, ne_Journal_append__boot, ne_Journal_append__generation, ne_Journal_append__start, ne_Journal_append__used, ne_Journal_append__records, ne_Journal_rewrite__boot, ne_Journal_rewrite__generation, ne_Journal_rewrite__start, ne_Journal_rewrite__used, ne_Journal_rewrite__records, ne_Journal__boot__generation_p, ne_Journal__boot__start_p, ne_Journal__boot__used_p, ne_Journal__boot__records_p, ne_Journal__generation__boot_p, ne_Journal__generation__start_p, ne_Journal__generation__used_p, ne_Journal__generation__records_p, ne_Journal__start__boot_p, ne_Journal__start__generation_p, ne_Journal__start__used_p, ne_Journal__start__records_p, ne_Journal__used__boot_p, ne_Journal__used__generation_p, ne_Journal__used__start_p, ne_Journal__used__records_p, ne_Journal__records__boot_p, ne_Journal__records__generation_p, ne_Journal__records__start_p, ne_Journal__records__used_p, ne_Journal__read_records__boot_p, ne_Journal__read_records__generation_p, ne_Journal__read_records__start_p, ne_Journal__read_records__used_p, ne_Journal__read_records__records_p, ne_Journal_records__boot_p, ne_Journal_records__generation_p, ne_Journal_records__start_p, ne_Journal_records__used_p, ne_Journal_records__records_p, ne_Journal_sectors_used__boot_p, ne_Journal_sectors_used__generation_p, ne_Journal_sectors_used__start_p, ne_Journal_sectors_used__used_p, ne_Journal_sectors_used__records_p, ne_Journal_append__boot_p, ne_Journal_append__generation_p, ne_Journal_append__start_p, ne_Journal_append__used_p, ne_Journal_append__records_p, ne_Journal_rewrite__boot_p, ne_Journal_rewrite__generation_p, ne_Journal_rewrite__start_p, ne_Journal_rewrite__used_p, ne_Journal_rewrite__records_p]
theorem fl_Journal__generation {v0 v1 v2 v3 v4 : V} : (fl_Journal v0 v1 v2 v3 v4).lookup ("_generation" : Str) = some v1 := by unfold fl_Journal; simp [List.lookup, ne_Journal__boot__generation, ne_Journal__boot__start, ne_Journal__boot__used, ne_Journal__boot__records, ne_Journal__generation__boot, ne_Journal__generation__start, ne_Journal__generation__used, ne_Journal__generation__records, ne_Journal__start__boot, ne_Journal__start__generation, ne_Journal__start__used, ne_Journal__start__records, ne_Journal__used__boot, ne_Journal__used__generation, ne_Journal__used__start, ne_Journal__used__records, ne_Journal__records__boot, ne_Journal__records__generation, ne_Journal__records__start, ne_Journal__records__used, ne_Journal__read_records__boot, ne_Journal__read_records__generation, ne_Journal__read_records__start, ne_Journal__read_records__used, ne_Journal__read_records__records, ne_Journal_records__boot, ne_Journal_records__generation, ne_Journal_records__start, ne_Journal_records__used, ne_Journal_records__records, ne_Journal_sectors_used__boot, ne_Journal_sectors_used__generation, ne_Journal_sectors_used__start, ne_Journal_sectors_used__used, ne_Journal_sectors_used__records, ne_Journal_append__boot, ne_Journal_append__generation, ne_Journal_append__start, ne_Journal_append__used, ne_Journal_append__records, ne_Journal_rewrite__boot, ne_Journal_rewrite__generation, ne_Journal_rewrite__start, ne_Journal_rewrite__used, ne_Journal_rewrite__records, ne_Journal__boot__generation_p, ne_Journal__boot__start_p, ne_Journal__boot__used_p, ne_Journal__boot__records_p, ne_Journal__generation__boot_p, ne_Journal__generation__start_p, ne_Journal__generation__used_p, ne_Journal__generation__records_p, ne_Journal__start__boot_p, ne_Journal__start__generation_p, ne_Journal__start__used_p, ne_Journal__start__records_p, ne_Journal__used__boot_p, ne_Journal__used__generation_p, ne_Journal__used__start_p, ne_Journal__used__records_p, ne_Journal__records__boot_p, ne_Journal__records__generation_p, ne_Journal__records__start_p, ne_Journal__records__used_p, ne_Journal__read_records__boot_p, ne_Journal__read_records__generation_p, ne_Journal__read_records__start_p, ne_Journal__read_records__used_p, ne_Journal__read_records__records_p, ne_Journal_records__boot_p, ne_Journal_records__generation_p, ne_Journal_records__start_p, ne_Journal_records__used_p, ne_Journal_records__records_p, ne_Journal_sectors_used__boot_p, ne_Journal_sectors_used__generation_p, ne_Journal_sectors_used__start_p, ne_Journal_sectors_used__used_p, ne_Journal_sectors_used__records_p, ne_Journal_append__boot_p, ne_Journal_append__generation_p, ne_Journal_append__start_p, ne_Journal_append__used_p, ne_Journal_append__records_p, ne_Journal_rewrite__boot_p, ne_Journal_rewrite__generation_p, ne_Journal_rewrite__start_p, ne_Journal_rewrite__used_p, ne_Journal_rewrite__records_p]
theorem pf_Journal__generation {v0 v1 v2 v3 v4 x : V} : putF ("_generation" : Str) x (fl_Journal v0 v1 v2 v3 v4) = fl_Journal v0 x v2 v3 v4 := by unfold fl_Journal; simp [putF, ne_Journal__boot__generation, ne_Journal__boot__start, ne_Journal__boot__used, ne_Journal__boot__records, ne_Journal__generation__boot, ne_Journal__generation__start, ne_Journal__generation__used, ne_Journal__generation__records, ne_Journal__start__boot, ne_Journal__start__generation, ne_Journal__start__used, ne_Journal__start__records, ne_Journal__used__boot, ne_Journal__used__generation, ne_Journal__used__start, ne_Journal__used__records, ne_Journal__records__boot, ne_Journal__records__generation, ne_Journal__records__start, ne_Journal__records__used, ne_Journal__read_records__boot, ne_Journal__read_records__generation, ne_Journal__read_records__start, ne_Journal__read_records__used, ne_Journal__read_records__records, ne_Journal_records__boot, ne_Journal_records__generation, ne_Journal_records__start, ne_Journal_records__used, ne_Journal_records__records, ne_Journal_sectors_used__boot, ne_Journal_sectors_used__generation, ne_Journal_sectors_used__start, ne_Journal_sectors_used__used, ne_Journal_sectors_used__records, ne_Journal_append__boot, ne_Journal_append__generation, ne_Journal_append__start, ne_Journal_append__used, ne_Journal_append__records, ne_Journal_rewrite__boot, ne_Journal_rewrite__generation, ne_Journal_rewrite__start, ne_Journal_rewrite__used, ne_Journal_rewrite__records, ne_Journal__boot__generation_p, ne_Journal__boot__start_p, ne_Journal__boot__used_p, ne_Journal__boot__records_p, ne_Journal__generation__boot_p, ne_Journal__generation__start_p, ne_Journal__generation__used_p, ne_Journal__generation__records_p, ne_Journal__start__boot_p, ne_Journal__start__generation_p, ne_Journal__start__used_p, ne_Journal__start__records_p, ne_Journal__used__boot_p, ne_Journal__used__generation_p, ne_Journal__used__start_p, ne_Journal__used__records_p, ne_Journal__records__boot_p, ne_Journal__records__generation_p, ne_Journal__records__start_p, ne_Journal__records__used_p, ne_Journal__read_records__boot_p, ne_Journal__read_records__generation_p, ne_Journal__read_records__start_p, ne_Journal__read_records__used_p, ne_Journal__read_records__records_p, ne_Journal_records__boot_p, ne_Journal_records__generation_p, ne_Journal_records__start_p, ne_Journal_records__used_p, ne_Journal_records__records_p, ne_Journal_sectors_used__boot_p, ne_Journal_sectors_used__generation_p, ne_Journal_sectors_used__start_p, ne_Journal_sectors_used__used_p, ne_Journal_sectors_used__records_p, ne_Journal_append__boot_p, ne_Journal_append__generation_p, ne_Journal_append__start_p, ne_Journal_append__used_p, ne_Journal_append__records_p, ne_Journal_rewrite__boot_p, ne_Journal_rewrite__generation_p, ne_Journal_rewrite__start_p, ne_Journal_rewrite__used_p, ne_Journal_rewrite__records_p]
theorem fl_Journal__start {v0 v1 v2 v3 v4 : V} : (fl_Journal v0 v1 v2 v3 v4).lookup ("_start" : Str) = some v2 := by unfold fl_Journal; simp [List.lookup, ne_Journal__boot__generation, ne_Journal__boot__start, ne_Journal__boot__used, ne_Journal__boot__records, ne_Journal__generation__boot, ne_Journal__generation__start, ne_Journal__generation__used, ne_Journal__generation__records, ne_Journal__start__boot, ne_Journal__start__generation, ne_Journal__start__used, ne_Journal__start__records, ne_Journal__used__boot, ne_Journal__used__generation, ne_Journal__used__start, ne_Journal__used__records, ne_Journal__records__boot, ne_Journal__records__generation, ne_Journal__records__start, ne_Journal__records__used, ne_Journal__read_records__boot, ne_Journal__read_records__generation, ne_Journal__read_records__start, ne_Journal__read_records__used, ne_Journal__read_records__records, ne_Journal_records__boot, ne_Journal_records__generation, ne_Journal_records__start, ne_Journal_records__used, ne_Journal_records__records, ne_Journal_sectors_used__boot, ne_Journal_sectors_used__generation, ne_Journal_sectors_used__start, ne_Journal_sectors_used__used, ne_Journal_sectors_used__records, ne_Journal_append__boot, ne_Journal_append__generation, ne_Journal_append__start, ne_Journal_append__used, ne_Journal_append__records, ne_Journal_rewrite__boot, ne_Journal_rewrite__generation, ne_Journal_rewrite__start, ne_Journal_rewrite__used, ne_Journal_rewrite__records, ne_Journal__boot__generation_p, ne_Journal__boot__start_p, ne_Journal__boot__used_p, ne_Journal__boot__records_p, ne_Journal__generation__boot_p, ne_Journal__generation__start_p, ne_Journal__generation__used_p, ne_Journal__generation__records_p, ne_Journal__start__boot_p, ne_Journal__start__generation_p, ne_Journal__start__used_p, ne_Journal__start__records_p, ne_Journal__used__boot_p, ne_Journal__used__generation_p, ne_Journal__used__start_p, ne_Journal__used__records_p, ne_Journal__records__boot_p, ne_Journal__records__generation_p, ne_Journal__records__start_p, ne_Journal__records__used_p, ne_Journal__read_records__boot_p, ne_Journal__read_records__generation_p, ne_Journal__read_records__start_p, ne_Journal__read_records__used_p, ne_Journal__read_records__records_p, ne_Journal_records__boot_p, ne_Journal_records__generation_p, ne_Journal_records__start_p, ne_Journal_records__used_p, ne_Journal_records__records_p, ne_Journal_sectors_used__boot_p, ne_Journal_sectors_used__generation_p, ne_Journal_sectors_used__start_p, ne_Journal_sectors_used__used_p, ne_Journal_sectors_used__records_p, ne_Journal_append__boot_p, ne_Journal_append__generation_p, ne_Journal_append__start_p, ne_Journal_append__used_p, ne_Journal_append__records_p, ne_Journal_rewrite__boot_p, ne_Journal_rewrite__generation_p, ne_Journal_rewrite__start_p, ne_Journal_rewrite__used_p, ne_Journal_rewrite__records_p]
theorem pf_Journal__start {v0 v1 v2 v3 v4 x : V} : putF ("_start" : Str) x (fl_Journal v0 v1 v2 v3 v4) = fl_Journal v0 v1 x v3 v4 := by unfold fl_Journal; simp [putF, ne_Journal__boot__generation, ne_Journal__boot__start, ne_Journal__boot__used, ne_Journal__boot__records, ne_Journal__generation__boot, ne_Journal__generation__start, ne_Journal__generation__used, ne_Journal__generation__records, ne_Journal__start__boot, ne_Journal__start__generation, ne_Journal__start__used, ne_Journal__start__records, ne_Journal__used__boot, ne_Journal__used__generation, ne_Journal__used__start, ne_Journal__used__records, ne_Journal__records__boot, ne_Journal__records__generation, ne_Journal__records__start, ne_Journal__records__used, ne_Journal__read_records__boot, ne_Journal__read_records__generation, ne_Journal__read_records__start, ne_Journal__read_records__used, ne_Journal__read_records__records, ne_Journal_records__boot, ne_Journal_records__generation, ne_Journal_records__start, ne_Journal_records__used, ne_Journal_records__records, ne_Journal_sectors_used__boot, ne_Journal_sectors_used__generation, ne_Journal_sectors_used__start, ne_Journal_sectors_used__used, ne_Journal_sectors_used__records, ne_Journal_append__boot, ne_Journal_append__generation, ne_Journal_append__start, ne_Journal_append__used, ne_Journal_append__records, ne_Journal_rewrite__boot, ne_Journal_rewrite__generation, ne_Journal_rewrite__start, ne_Journal_rewrite__used, ne_Journal_rewrite__records, ne_Journal__boot__generation_p, ne_Journal__boot__start_p, ne_Journal__boot__used_p, ne_Journal__boot__records_p, ne_Journal__generation__boot_p, ne_Journal__generation__start_p, ne_Journal__generation__used_p, ne_Journal__generation__records_p, ne_Journal__start__boot_p, ne_Journal__start__generation_p, ne_Journal__start__used_p, ne_Journal__start__records_p, ne_Journal__used__boot_p, ne_Journal__used__generation_p, ne_Journal__used__start_p, ne_Journal__used__records_p, ne_Journal__records__boot_p, ne_Journal__records__generation_p, ne_Journal__records__start_p, ne_Journal__records__used_p, ne_Journal__read_records__boot_p, ne_Journal__read_records__generation_p, ne_Journal__read_records__start_p, ne_Journal__read_records__used_p, ne_Journal__read_records__records_p, ne_Journal_records__boot_p, ne_Journal_records__generation_p, ne_Journal_records__start_p, ne_Journal_records__used_p, ne_Journal_records__records_p, ne_Journal_sectors_used__boot_p, ne_Journal_sectors_used__generation_p, ne_Journal_sectors_used__start_p, ne_Journal_sectors_used__used_p, ne_Journal_sectors_used__records_p, ne_Journal_append__boot_p, ne_Journal_append__generation_p, ne_Journal_append__start_p, ne_Journal_append__used_p, ne_Journal_append__records_p, ne_Journal_rewrite__boot_p, ne_Journal_rewrite__generation_p, ne_Journal_rewrite__start_p, ne_Journal_rewrite__used_p, ne_Journal_rewrite__records_p]
theorem fl_Journal__used {v0 v1 v2 v3 v4 : V} : (fl_Journal v0 v1 v2 v3 v4).lookup ("_used" : Str) = some v3 := by unfold fl_Journal; simp [List.lookup, ne_Journal__boot__generation, ne_Journal__boot__start, ne_Journal__boot__used, ne_Journal__boot__records, ne_Journal__generation__boot, ne_Journal__generation__start, ne_Journal__generation__used, ne_Journal__generation__records, ne_Journal__start__boot, ne_Journal__start__generation, ne_Journal__start__used, ne_Journal__start__records, ne_Journal__used__boot, ne_Journal__used__generation, ne_Journal__used__start, ne_Journal__used__records, ne_Journal__records__boot, ne_Journal__records__generation, ne_Journal__records__start, ne_Journal__records__used, ne_Journal__read_records__boot, ne_Journal__read_records__generation, ne_Journal__read_records__start, ne_Journal__read_records__used, ne_Journal__read_records__records, ne_Journal_records__boot, ne_Journal_records__generation, ne_Journal_records__start, ne_Journal_records__used, ne_Journal_records__records, ne_Journal_sectors_used__boot, ne_Journal_sectors_used__generation, ne_Journal_sectors_used__start, ne_Journal_sectors_used__used, ne_Journal_sectors_used__records, ne_Journal_append__boot, ne_Journal_append__generation, ne_Journal_append__start, ne_Journal_append__used, ne_Journal_append__records, ne_Journal_rewrite__boot, ne_Journal_rewrite__generation, ne_Journal_rewrite__start, ne_Journal_rewrite__used, ne_Journal_rewrite__records, ne_Journal__boot__generation_p, ne_Journal__boot__start_p, ne_Journal__boot__used_p, ne_Journal__boot__records_p, ne_Journal__generation__boot_p, ne_Journal__generation__start_p, ne_Journal__generation__used_p, ne_Journal__generation__records_p, ne_Journal__start__boot_p, ne_Journal__start__generation_p, ne_Journal__start__used_p, ne_Journal__start__records_p, ne_Journal__used__boot_p, ne_Journal__used__generation_p, ne_Journal__used__start_p, ne_Journal__used__records_p, ne_Journal__records__boot_p, ne_Journal__records__generation_p, ne_Journal__records__start_p, ne_Journal__records__used_p, ne_Journal__read_records__boot_p, ne_Journal__read_records__generation_p, ne_Journal__read_records__start_p, ne_Journal__read_records__used_p, ne_Journal__read_records__records_p, ne_Journal_records__boot_p, ne_Journal_records__generation_p, ne_Journal_records__start_p, ne_Journal_records__used_p, ne_Journal_records__records_p, ne_Journal_sectors_used__boot_p, ne_Journal_sectors_used__generation_p, ne_Journal_sectors_used__start_p, ne_Journal_sectors_used__used_p, ne_Journal_sectors_used__records_p, ne_Journal_append__boot_p, ne_Journal_append__generation_p, ne_Journal_append__start_p, ne_Journal_append__used_p, ne_Journal_append__records_p, ne_Journal_rewrite__boot_p, ne_Journal_rewrite__generation_p, ne_Journal_rewrite__start_p, ne_Journal_rewrite__used_p, ne_Journal_rewrite__records_p]
theorem pf_Journal__used {v0 v1 v2 v3 v4 x : V} : putF ("_used" : Str) x (fl_Journal v0 v1 v2 v3 v4) = fl_Journal v0 v1 v2 x v4 := by unfold fl_Journal; simp [putF, ne_Journal__boot__generation, ne_Journal__boot__start, ne_Journal__boot__used, ne_Journal__boot__records, ne_Journal__generation__boot, ne_Journal__generation__start, ne_Journal__generation__used, ne_Journal__generation__records, ne_Journal__start__boot, ne_Journal__start__generation, ne_Journal__start__used, ne_Journal__start__records, ne_Journal__used__boot, ne_Journal__used__generation, ne_Journal__used__start, ne_Journal__used__records, ne_Journal__records__boot, ne_Journal__records__generation, ne_Journal__records__start, ne_Journal__records__used, ne_Journal__read_records__boot, ne_Journal__read_records__generation, ne_Journal__read_records__start, ne_Journal__read_records__used, ne_Journal__read_records__records, ne_Journal_records__boot, ne_Journal_records__generation, ne_Journal_records__start, ne_Journal_records__used, ne_Journal_records__records, ne_Journal_sectors_used__boot, ne_Journal_sectors_used__generation, ne_Journal_sectors_used__start, ne_Journal_sectors_used__used, ne_Journal_sectors_used__records, ne_Journal_append__boot, ne_Journal_append__generation, ne_Journal_append__start, ne_Journal_append__used, ne_Journal_append__records, ne_Journal_rewrite__boot, ne_Journal_rewrite__generation, ne_Journal_rewrite__start, ne_Journal_rewrite__used, ne_Journal_rewrite__records, ne_Journal__boot__generation_p, ne_Journal__boot__start_p, ne_Journal__boot__used_p, ne_Journal__boot__records_p, ne_Journal__generation__boot_p, ne_Journal__generation__start_p, ne_Journal__generation__used_p, ne_Journal__generation__records_p, ne_Journal__start__boot_p, ne_Journal__start__generation_p, ne_Journal__start__used_p, ne_Journal__start__records_p, ne_Journal__used__boot_p, ne_Journal__used__generation_p, ne_Journal__used__start_p, ne_Journal__used__records_p, ne_Journal__records__boot_p, ne_Journal__records__generation_p, ne_Journal__records__start_p, ne_Journal__records__used_p, ne_Journal__read_records__boot_p, ne_Journal__read_records__generation_p, ne_Journal__read_records__start_p, ne_Journal__read_records__used_p, ne_Journal__read_records__records_p, ne_Journal_records__boot_p, ne_Journal_records__generation_p, ne_Journal_records__start_p, ne_Journal_records__used_p, ne_Journal_records__records_p, ne_Journal_sectors_used__boot_p, ne_Journal_sectors_used__generation_p, ne_Journal_sectors_used__start_p, ne_Journal_sectors_used__used_p, ne_Journal_sectors_used__records_p, ne_Journal_append__boot_p, ne_Journal_append__generation_p, ne_Journal_append__start_p, ne_Journal_append__used_p, ne_Journal_append__records_p, ne_Journal_rewrite__boot_p, ne_Journal_rewrite__generation_p, ne_Journal_rewrite__start_p, ne_Journal_rewrite__used_p, ne_Journal_rewrite__records_p]
theorem fl_Journal__records {v0 v1 v2 v3 v4 : V} : (fl_Journal v0 v1 v2 v3 v4).lookup ("_records" : Str) = some v4 := by unfold fl_Journal; simp [List.lookup, ne_Journal__boot__generation, ne_Journal__boot__start, ne_Journal__boot__used, ne_Journal__boot__records, ne_Journal__generation__boot, ne_Journal__generation__start, ne_Journal__generation__used, ne_Journal__generation__records, ne_Journal__start__boot, ne_Journal__start__generation, ne_Journal__start__used, ne_Journal__start__records, ne_Journal__used__boot, ne_Journal__used__generation, ne_Journal__used__start, ne_Journal__used__records, ne_Journal__records__boot, ne_Journal__records__generation, ne_Journal__records__start, ne_Journal__records__used, ne_Journal__read_records__boot, ne_Journal__read_records__generation, ne_Journal__read_records__start, ne_Journal__read_records__used, ne_Journal__read_records__records, ne_Journal_records__boot, ne_Journal_records__generation, ne_Journal_records__start, ne_Journal_records__used, ne_Journal_records__records, ne_Journal_sectors_used__boot, ne_Journal_sectors_used__generation, ne_Journal_sectors_used__start, ne_Journal_sectors_used__used, ne_Journal_sectors_used__records, ne_Journal_append__boot, ne_Journal_append__generation, ne_Journal_append__start, ne_Journal_append__used, ne_Journal_append__records, ne_Journal_rewrite__boot, ne_Journal_rewrite__generation, ne_Journal_rewrite__start, ne_Journal_rewrite__used, ne_Journal_rewrite__records, ne_Journal__boot__generation_p, ne_Journal__boot__start_p, ne_Journal__boot__used_p, ne_Journal__boot__records_p, ne_Journal__generation__boot_p, ne_Journal__generation__start_p, ne_Journal__generation__used_p, ne_Journal__generation__records_p, ne_Journal__start__boot_p, ne_Journal__start__generation_p, ne_Journal__start__used_p, ne_Journal__start__records_p, ne_Journal__used__boot_p, ne_Journal__used__generation_p, ne_Journal__used__start_p, ne_Journal__used__records_p, ne_Journal__records__boot_p, ne_Journal__records__generation_p, ne_Journal__records__start_p, ne_Journal__records__used_p, ne_Journal__read_records__boot_p, ne_Journal__read_records__generation_p, ne_Journal__read_records__start_p, ne_Journal__read_records__used_p, ne_Journal__read_records__records_p, ne_Journal_records__boot_p, ne_Journal_records__generation_p, ne_Journal_records__start_p, ne_Journal_records__used_p, ne_Journal_records__records_p, ne_Journal_sectors_used__boot_p, ne_Journal_sectors_used__generation_p, ne_Journal_sectors_used__start_p, ne_Journal_sectors_used__used_p, ne_Journal_sectors_used__records_p, ne_Journal_append__boot_p, ne_Journal_append__generation_p, ne_Journal_append__start_p, ne_Journal_append__used_p, ne_Journal_append__records_p, ne_Journal_rewrite__boot_p, ne_Journal_rewrite__generation_p, ne_Journal_rewrite__start_p, ne_Journal_rewrite__used_p, ne_Journal_rewrite__records_p]
theorem pf_Journal__records {v0 v1 v2 v3 v4 x : V} : putF ("_records" : Str) x (fl_Journal v0 v1 v2 v3 v4) = fl_Journal v0 v1 v2 v3 x := by unfold fl_Journal; simp [putF, ne_Journal__boot__generation, ne_Journal__boot__start, ne_Journal__boot__used, ne_Journal__boot__records, ne_Journal__generation__boot, ne_Journal__generation__start, ne_Journal__generation__used, ne_Journal__generation__records, ne_Journal__start__boot, ne_Journal__start__generation, ne_Journal__start__used, ne_Journal__start__records, ne_Journal__used__boot, ne_Journal__used__generation, ne_Journal__used__start, ne_Journal__used__records, ne_Journal__records__boot, ne_Journal__records__generation, ne_Journal__records__start, ne_Journal__records__used, ne_Journal__read_records__boot, ne_Journal__read_records__generation, ne_Journal__read_records__start, ne_Journal__read_records__used, ne_Journal__read_records__records, ne_Journal_records__boot, ne_Journal_records__generation, ne_Journal_records__start, ne_Journal_records__used, ne_Journal_records__records, ne_Journal_sectors_used__boot, ne_Journal_sectors_used__generation, ne_Journal_sectors_used__start, ne_Journal_sectors_used__used, ne_Journal_sectors_used__records, ne_Journal_append__boot, ne_Journal_append__generation, ne_Journal_append__start, ne_Journal_append__used, ne_Journal_append__records, ne_Journal_rewrite__boot, ne_Journal_rewrite__generation, ne_Journal_rewrite__start, ne_Journal_rewrite__used, ne_Journal_rewrite__records, ne_Journal__boot__generation_p, ne_Journal__boot__start_p, ne_Journal__boot__used_p, ne_Journal__boot__records_p, ne_Journal__generation__boot_p, ne_Journal__generation__start_p, ne_Journal__generation__used_p, ne_Journal__generation__records_p, ne_Journal__start__boot_p, ne_Journal__start__generation_p, ne_Journal__start__used_p, ne_Journal__start__records_p, ne_Journal__used__boot_p, ne_Journal__used__generation_p, ne_Journal__used__start_p, ne_Journal__used__records_p, ne_Journal__records__boot_p, ne_Journal__records__generation_p, ne_Journal__records__start_p, ne_Journal__records__used_p, ne_Journal__read_records__boot_p, ne_Journal__read_records__generation_p, ne_Journal__read_records__start_p, ne_Journal__read_records__used_p, ne_Journal__read_records__records_p, ne_Journal_records__boot_p, ne_Journal_records__generation_p, ne_Journal_records__start_p, ne_Journal_records__used_p, ne_Journal_records__records_p, ne_Journal_sectors_used__boot_p, ne_Journal_sectors_used__generation_p, ne_Journal_sectors_used__start_p, ne_Journal_sectors_used__used_p, ne_Journal_sectors_used__records_p, ne_Journal_append__boot_p, ne_Journal_append__generation_p, ne_Journal_append__start_p, ne_Journal_append__used_p, ne_Journal_append__records_p, ne_Journal_rewrite__boot_p, ne_Journal_rewrite__generation_p, ne_Journal_rewrite__start_p, ne_Journal_rewrite__used_p, ne_Journal_rewrite__records_p]
theorem fl_Journal_no__read_records {v0 v1 v2 v3 v4 : V} : (fl_Journal v0 v1 v2 v3 v4).lookup ("_read_records" : Str) = none := by unfold fl_Journal; simp [List.lookup, ne_Journal__boot__generation, ne_Journal__boot__start, ne_Journal__boot__used, ne_Journal__boot__records, ne_Journal__generation__boot, ne_Journal__generation__start, ne_Journal__generation__used, ne_Journal__generation__records, ne_Journal__start__boot, ne_Journal__start__generation, ne_Journal__start__used, ne_Journal__start__records, ne_Journal__used__boot, ne_Journal__used__generation, ne_Journal__used__start, ne_Journal__used__records, ne_Journal__records__boot, ne_Journal__records__generation, ne_Journal__records__start, ne_Journal__records__used, ne_Journal__read_records__boot, ne_Journal__read_records__generation, ne_Journal__read_records__start, ne_Journal__read_records__used, ne_Journal__read_records__records, ne_Journal_records__boot, ne_Journal_records__generation, ne_Journal_records__start, ne_Journal_records__used, ne_Journal_records__records, ne_Journal_sectors_used__boot, ne_Journal_sectors_used__generation, ne_Journal_sectors_used__start, ne_Journal_sectors_used__used, ne_Journal_sectors_used__records, ne_Journal_append__boot, ne_Journal_append__generation, ne_Journal_append__start, ne_Journal_append__used, ne_Journal_append__records, ne_Journal_rewrite__boot, ne_Journal_rewrite__generation, ne_Journal_rewrite__start, ne_Journal_rewrite__used, ne_Journal_rewrite__records, ne_Journal__boot__generation_p, ne_Journal__boot__start_p, ne_Journal__boot__used_p, ne_Journal__boot__records_p, ne_Journal__generation__boot_p, ne_Journal__generation__start_p, ne_Journal__generation__used_p, ne_Journal__generation__records_p, ne_Journal__start__boot_p, ne_Journal__start__generation_p, ne_Journal__start__used_p, ne_Journal__start__records_p, ne_Journal__used__boot_p, ne_Journal__used__generation_p, ne_Journal__used__start_p, ne_Journal__used__records_p, ne_Journal__records__boot_p, ne_Journal__records__generation_p, ne_Journal__records__start_p, ne_Journal__records__used_p, ne_Journal__read_records__boot_p, ne_Journal__read_records__generation_p, ne_Journal__read_records__start_p, ne_Journal__read_records__used_p, ne_Journal__read_records__records_p, ne_Journal_records__boot_p, ne_Journal_records__generation_p, ne_Journal_records__start_p, ne_Journal_records__used_p, ne_Journal_records__records_p, ne_Journal_sectors_used__boot_p, ne_Journal_sectors_used__generation_p, ne_Journal_sectors_used__start_p, ne_Journal_sectors_used__used_p, ne_Journal_sectors_used__records_p, ne_Journal_append__boot_p, ne_Journal_append__generation_p, ne_Journal_append__start_p, ne_Journal_append__used_p, ne_Journal_append__records_p, ne_Journal_rewrite__boot_p, ne_Journal_rewrite__generation_p, ne_Journal_rewrite__start_p, ne_Journal_rewrite__used_p, ne_Journal_rewrite__records_p]
theorem fl_Journal_no_records {v0 v1 v2 v3 v4 : V} : (fl_Journal v0 v1 v2 v3 v4).lookup ("records" : Str) = none := by unfold fl_Journal; simp [List.lookup, ne_Journal__boot__generation, ne_Journal__boot__start, ne_Journal__boot__used, ne_Journal__boot__records, ne_Journal__generation__boot, ne_Journal__generation__start, ne_Journal__generation__used, ne_Journal__generation__records, ne_Journal__start__boot, ne_Journal__start__generation, ne_Journal__start__used, ne_Journal__start__records, ne_Journal__used__boot, ne_Journal__used__generation, ne_Journal__used__start, ne_Journal__used__records, ne_Journal__records__boot, ne_Journal__records__generation, ne_Journal__records__start, ne_Journal__records__used, ne_Journal__read_records__boot, ne_Journal__read_records__generation, ne_Journal__read_records__start, ne_Journal__read_records__used, ne_Journal__read_records__records, ne_Journal_records__boot, ne_Journal_records__generation, ne_Journal_records__start, ne_Journal_records__used, ne_Journal_records__records, ne_Journal_sectors_used__boot, ne_Journal_sectors_used__generation, ne_Journal_sectors_used__start, ne_Journal_sectors_used__used, ne_Journal_sectors_used__records, ne_Journal_append__boot, ne_Journal_append__generation, ne_Journal_append__start, ne_Journal_append__used, ne_Journal_append__records, ne_Journal_rewrite__boot, ne_Journal_rewrite__generation, ne_Journal_rewrite__start, ne_Journal_rewrite__used, ne_Journal_rewrite__records, ne_Journal__boot__generation_p, ne_Journal__boot__start_p, ne_Journal__boot__used_p, ne_Journal__boot__records_p, ne_Journal__generation__boot_p, ne_Journal__generation__start_p, ne_Journal__generation__used_p, ne_Journal__generation__records_p, ne_Journal__start__boot_p, ne_Journal__start__generation_p, ne_Journal__start__used_p, ne_Journal__start__records_p, ne_Journal__used__boot_p, ne_Journal__used__generation_p, ne_Journal__used__start_p, ne_Journal__used__records_p, ne_Journal__records__boot_p, ne_Journal__records__generation_p, ne_Journal__records__start_p, ne_Journal__records__used_p, ne_Journal__read_records__boot_p, ne_Journal__read_records__generation_p, ne_Journal__read_records__start_p, ne_Journal__read_records__used_p, ne_Journal__read_records__records_p, ne_Journal_records__boot_p, ne_Journal_records__generation_p, ne_Journal_records__start_p, ne_Journal_records__used_p, ne_Journal_records__records_p, ne_Journal_sectors_used__boot_p, ne_Journal_sectors_used__generation_p, ne_Journal_sectors_used__start_p, ne_Journal_sectors_used__used_p, ne_Journal_sectors_used__records_p, ne_Journal_append__boot_p, ne_Journal_append__generation_p, ne_Journal_append__start_p, ne_Journal_append__used_p, ne_Journal_append__records_p, ne_Journal_rewrite__boot_p, ne_Journal_rewrite__generation_p, ne_Journal_rewrite__start_p, ne_Journal_rewrite__used_p, ne_Journal_rewrite__records_p]
theorem fl_Journal_no_sectors_used {v0 v1 v2 v3 v4 : V} : (fl_Journal v0 v1 v2 v3 v4).lookup ("sectors_used" : Str) = none := by unfold fl_Journal; simp [List.lookup, ne_Journal__boot__generation, ne_Journal__boot__start, ne_Journal__boot__used, ne_Journal__boot__records, ne_Journal__generation__boot, ne_Journal__generation__start, ne_Journal__generation__used, ne_Journal__generation__records, ne_Journal__start__boot, ne_Journal__start__generation, ne_Journal__start__used, ne_Journal__start__records, ne_Journal__used__boot, ne_Journal__used__generation, ne_Journal__used__start, ne_Journal__used__records, ne_Journal__records__boot, ne_Journal__records__generation, ne_Journal__records__start, ne_Journal__records__used, ne_Journal__read_records__boot, ne_Journal__read_records__generation, ne_Journal__read_records__start, ne_Journal__read_records__used, ne_Journal__read_records__records, ne_Journal_records__boot, ne_Journal_records__generation, ne_Journal_records__start, ne_Journal_records__used, ne_Journal_records__records, ne_Journal_sectors_used__boot, ne_Journal_sectors_used__generation, ne_Journal_sectors_used__start, ne_Journal_sectors_used__used, ne_Journal_sectors_used__records, ne_Journal_append__boot, ne_Journal_append__generation, ne_Journal_append__start, ne_Journal_append__used, ne_Journal_append__records, ne_Journal_rewrite__boot, ne_Journal_rewrite__generation, ne_Journal_rewrite__start, ne_Journal_rewrite__used, ne_Journal_rewrite__records, ne_Journal__boot__generation_p, ne_Journal__boot__start_p, ne_Journal__boot__used_p, ne_Journal__boot__records_p, ne_Journal__generation__boot_p, ne_Journal__generation__start_p, ne_Journal__generation__used_p, ne_Journal__generation__records_p, ne_Journal__start__boot_p, ne_Journal__start__generation_p, ne_Journal__start__used_p, ne_Journal__start__records_p, ne_Journal__used__boot_p, ne_Journal__used__generation_p, ne_Journal__used__start_p, ne_Journal__used__records_p, ne_Journal__records__boot_p, ne_Journal__records__generation_p, ne_Journal__records__start_p, ne_Journal__records__used_p, ne_Journal__read_records__boot_p, ne_Journal__read_records__generation_p, ne_Journal__read_records__start_p, ne_Journal__read_records__used_p, ne_Journal__read_records__records_p, ne_Journal_records__boot_p, ne_Journal_records__generation_p, ne_Journal_records__start_p, ne_Journal_records__used_p, ne_Journal_records__records_p, ne_Journal_sectors_used__boot_p, ne_Journal_sectors_used__generation_p, ne_Journal_sectors_used__start_p, ne_Journal_sectors_used__used_p, ne_Journal_sectors_used__records_p, ne_Journal_append__boot_p, ne_Journal_append__generation_p, ne_Journal_append__start_p, ne_Journal_append__used_p, ne_Journal_append__records_p, ne_Journal_rewrite__boot_p, ne_Journal_rewrite__generation_p, ne_Journal_rewrite__start_p, ne_Journal_rewrite__used_p, ne_Journal_rewrite__records_p]
theorem fl_Journal_no_append {v0 v1 v2 v3 v4 : V} : (fl_Journal v0 v1 v2 v3 v4).lookup ("append" : Str) = none := by unfold fl_Journal; simp [List.lookup, ne_Journal__boot__generation, ne_Journal__boot__start, ne_Journal__boot__used, ne_Journal__boot__records, ne_Journal__generation__boot, ne_Journal__generation__start, ne_Journal__generation__used, ne_Journal__generation__records, ne_Journal__start__boot, ne_Journal__start__generation, ne_Journal__start__used, ne_Journal__start__records, ne_Journal__used__boot, ne_Journal__used__generation, ne_Journal__used__start, ne_Journal__used__records, ne_Journal__records__boot, ne_Journal__records__generation, ne_Journal__records__start, ne_Journal__records__used, ne_Journal__read_records__boot, ne_Journal__read_records__generation, ne_Journal__read_records__start, ne_Journal__read_records__used, ne_Journal__read_records__records, ne_Journal_records__boot, ne_Journal_records__generation, ne_Journal_records__start, ne_Journal_records__used, ne_Journal_records__records, ne_Journal_sectors_used__boot, ne_Journal_sectors_used__generation, ne_Journal_sectors_used__start, ne_Journal_sectors_used__used, ne_Journal_sectors_used__records, ne_Journal_append__boot, ne_Journal_append__generation, ne_Journal_append__start, ne_Journal_append__used, ne_Journal_append__records, ne_Journal_rewrite__boot, ne_Journal_rewrite__generation, ne_Journal_rewrite__start, ne_Journal_rewrite__used, ne_Journal_rewrite__records, ne_Journal__boot__generation_p, ne_Journal__boot__start_p, ne_Journal__boot__used_p, ne_Journal__boot__records_p, ne_Journal__generation__boot_p, ne_Journal__generation__start_p, ne_Journal__generation__used_p, ne_Journal__generation__records_p, ne_Journal__start__boot_p, ne_Journal__start__generation_p, ne_Journal__start__used_p, ne_Journal__start__records_p, ne_Journal__used__boot_p, ne_Journal__used__generation_p, ne_Journal__used__start_p, ne_Journal__used__records_p, ne_Journal__records__boot_p, ne_Journal__records__generation_p, ne_Journal__records__start_p, ne_Journal__records__used_p, ne_Journal__read_records__boot_p, ne_Journal__read_records__generation_p, ne_Journal__read_records__start_p, ne_Journal__read_records__used_p, ne_Journal__read_records__records_p, ne_Journal_records__boot_p, ne_Journal_records__generation_p, ne_Journal_records__start_p, ne_Journal_records__used_p, ne_Journal_records__records_p, ne_Journal_sectors_used__boot_p, ne_Journal_sectors_used__generation_p, ne_Journal_sectors_used__start_p, ne_Journal_sectors_used__used_p, ne_Journal_sectors_used__records_p, ne_Journal_append__boot_p, ne_Journal_append__generation_p, ne_Journal_append__start_p, ne_Journal_append__used_p, ne_Journal_append__records_p, ne_Journal_rewrite__boot_p, ne_Journal_rewrite__generation_p, ne_Journal_rewrite__start_p, ne_Journal_rewrite__used_p, ne_Journal_rewrite__records_p]
theorem fl_Journal_no_rewrite {v0 v1 v2 v3 v4 : V} : (fl_Journal v0 v1 v2 v3 v4).lookup ("rewrite" : Str) = none := by unfold fl_Journal; simp [List.lookup, ne_Journal__boot__generation, ne_Journal__boot__start, ne_Journal__boot__used, ne_Journal__boot__records, ne_Journal__generation__boot, ne_Journal__generation__start, ne_Journal__generation__used, ne_Journal__generation__records, ne_Journal__start__boot, ne_Journal__start__generation, ne_Journal__start__used, ne_Journal__start__records, ne_Journal__used__boot, ne_Journal__used__generation, ne_Journal__used__start, ne_Journal__used__records, ne_Journal__records__boot, ne_Journal__records__generation, ne_Journal__records__start, ne_Journal__records__used, ne_Journal__read_records__boot, ne_Journal__read_records__generation, ne_Journal__read_records__start, ne_Journal__read_records__used, ne_Journal__read_records__records, ne_Journal_records__boot, ne_Journal_records__generation, ne_Journal_records__start, ne_Journal_records__used, ne_Journal_records__records, ne_Journal_sectors_used__boot, ne_Journal_sectors_used__generation, ne_Journal_sectors_used__start, ne_Journal_sectors_used__used, ne_Journal_sectors_used__records, ne_Journal_append__boot, ne_Journal_append__generation, ne_Journal_append__start, ne_Journal_append__used, ne_Journal_append__records, ne_Journal_rewrite__boot, ne_Journal_rewrite__generation, ne_Journal_rewrite__start, ne_Journal_rewrite__used, ne_Journal_rewrite__records, ne_Journal__boot__generation_p, ne_Journal__boot__start_p, ne_Journal__boot__used_p, ne_Journal__boot__records_p, ne_Journal__generation__boot_p, ne_Journal__generation__start_p, ne_Journal__generation__used_p, ne_Journal__generation__records_p, ne_Journal__start__boot_p, ne_Journal__start__generation_p, ne_Journal__start__used_p, ne_Journal__start__records_p, ne_Journal__used__boot_p, ne_Journal__used__generation_p, ne_Journal__used__start_p, ne_Journal__used__records_p, ne_Journal__records__boot_p, ne_Journal__records__generation_p, ne_Journal__records__start_p, ne_Journal__records__used_p, ne_Journal__read_records__boot_p, ne_Journal__read_records__generation_p, ne_Journal__read_records__start_p, ne_Journal__read_records__used_p, ne_Journal__read_records__records_p, ne_Journal_records__boot_p, ne_Journal_records__generation_p, ne_Journal_records__start_p, ne_Journal_records__used_p, ne_Journal_records__records_p, ne_Journal_sectors_used__boot_p, ne_Journal_sectors_used__generation_p, ne_Journal_sectors_used__start_p, ne_Journal_sectors_used__used_p, ne_Journal_sectors_used__records_p, ne_Journal_append__boot_p, ne_Journal_append__generation_p, ne_Journal_append__start_p, ne_Journal_append__used_p, ne_Journal_append__records_p, ne_Journal_rewrite__boot_p, ne_Journal_rewrite__generation_p, ne_Journal_rewrite__start_p, ne_Journal_rewrite__used_p, ne_Journal_rewrite__records_p]
theorem fl_Journal_new {v0 v1 v2 v3 v4 : V} : putF ("_records" : Str) v4 (putF ("_used" : Str) v3 (putF ("_start" : Str) v2 (putF ("_generation" : Str) v1 (putF ("_boot" : Str) v0 ([]))))) = fl_Journal v0 v1 v2 v3 v4 := by unfold fl_Journal; simp [putF, ne_Journal__boot__generation, ne_Journal__boot__start, ne_Journal__boot__used, ne_Journal__boot__records, ne_Journal__generation__boot, ne_Journal__generation__start, ne_Journal__generation__used, ne_Journal__generation__records, ne_Journal__start__boot, ne_Journal__start__generation, ne_Journal__start__used, ne_Journal__start__records, ne_Journal__used__boot, ne_Journal__used__generation, ne_Journal__used__start, ne_Journal__used__records, ne_Journal__records__boot, ne_Journal__records__generation, ne_Journal__records__start, ne_Journal__records__used, ne_Journal__read_records__boot, ne_Journal__read_records__generation, ne_Journal__read_records__start, ne_Journal__read_records__used, ne_Journal__read_records__records, ne_Journal_records__boot, ne_Journal_records__generation, ne_Journal_records__start, ne_Journal_records__used, ne_Journal_records__records, ne_Journal_sectors_used__boot, ne_Journal_sectors_used__generation, ne_Journal_sectors_used__start, ne_Journal_sectors_used__used, ne_Journal_sectors_used__records, ne_Journal_append__boot, ne_Journal_append__generation, ne_Journal_append__start, ne_Journal_append__used, ne_Journal_append__records, ne_Journal_rewrite__boot, ne_Journal_rewrite__generation, ne_Journal_rewrite__start, ne_Journal_rewrite__used, ne_Journal_rewrite__records, ne_Journal__boot__generation_p, ne_Journal__boot__start_p, ne_Journal__boot__used_p, ne_Journal__boot__records_p, ne_Journal__generation__boot_p, ne_Journal__generation__start_p, ne_Journal__generation__used_p, ne_Journal__generation__records_p, ne_Journal__start__boot_p, ne_Journal__start__generation_p, ne_Journal__start__used_p, ne_Journal__start__records_p, ne_Journal__used__boot_p, ne_Journal__used__generation_p, ne_Journal__used__start_p, ne_Journal__used__records_p, ne_Journal__records__boot_p, ne_Journal__records__generation_p, ne_Journal__records__start_p, ne_Journal__records__used_p, ne_Journal__read_records__boot_p, ne_Journal__read_records__generation_p, ne_Journal__read_records__start_p, ne_Journal__read_records__used_p, ne_Journal__read_records__records_p, ne_Journal_records__boot_p, ne_Journal_records__generation_p, ne_Journal_records__start_p, ne_Journal_records__used_p, ne_Journal_records__records_p, ne_Journal_sectors_used__boot_p, ne_Journal_sectors_used__generation_p, ne_Journal_sectors_used__start_p, ne_Journal_sectors_used__used_p, ne_Journal_sectors_used__records_p, ne_Journal_append__boot_p, ne_Journal_append__generation_p, ne_Journal_append__start_p, ne_Journal_append__used_p, ne_Journal_append__records_p, ne_Journal_rewrite__boot_p, ne_Journal_rewrite__generation_p, ne_Journal_rewrite__start_p, ne_Journal_rewrite__used_p, ne_Journal_rewrite__records_p]

theorem or_use {ta tb : TT} {σ : L2.St} {H : Hp} {Q : Bool → Hp → Prop} {x y : Bool} (ha : ∀ R : Bool → Hp → Prop, R x H → ta σ H R) (hb : ∀ R : Bool → Hp → Prop, R y H → tb σ H R) (q : Q (x || y) H) : tOr ta tb σ H Q := by
  refine ha _ ?_
  cases x with
  | true => exact (if_pos rfl).mpr q
  | false => exact (if_neg Bool.false_ne_true).mpr (hb _ q)
theorem and_use {ta tb : TT} {σ : L2.St} {H : Hp} {Q : Bool → Hp → Prop} {x y : Bool} (ha : ∀ R : Bool → Hp → Prop, R x H → ta σ H R) (hb : ∀ R : Bool → Hp → Prop, R y H → tb σ H R) (q : Q (x && y) H) : tAnd ta tb σ H Q := by
  refine ha _ ?_
  cases x with
  | true => exact (if_pos rfl).mpr (hb _ q)
  | false => exact (if_neg Bool.false_ne_true).mpr q
def Bytes (bs : List Int) : Prop := ∀ b ∈ bs, 0 ≤ b ∧ b < 256
/-- numbers stay below this -/
def Lim : Nat := 128 ^ 500
/-! numbers written in groups of seven bits -/
def enc (n : Nat) : List Int := if h : n ≤ 127 then [(n : Int)] else ((128 + n % 128 : Nat) : Int) :: enc (n / 128)
termination_by n
decreasing_by omega
theorem enc_small {n : Nat} (h : n ≤ 127) : enc n = [(n : Int)] := by rw [enc, dif_pos h]
theorem enc_big {n : Nat} (h : ¬ n ≤ 127) : enc n = ((128 + n % 128 : Nat) : Int) :: enc (n / 128) := by rw [enc, dif_neg h]
theorem enc_len : ∀ (L n : Nat), n < 128 ^ (L + 1) → (enc n).length ≤ L + 1
  | 0, n, h => by
    have : n ≤ 127 := by simp at h; omega
    rw [enc_small this]
    simp
  | L + 1, n, h => by
    by_cases c : n ≤ 127
    · rw [enc_small c]
      simp
    · rw [enc_big c, List.length_cons]
      have := enc_len L (n / 128) (by rw [Nat.pow_succ] at h; exact (Nat.div_lt_iff_lt_mul (by decide)).mpr h)
      omega
theorem enc_lim {n : Nat} (h : n < Lim) : (enc n).length ≤ 500 := enc_len 499 n h
theorem enc_pos (n : Nat) : 0 < (enc n).length := by
  by_cases c : n ≤ 127
  · rw [enc_small c]; simp
  · rw [enc_big c, List.length_cons]; omega
theorem enc_bytes : ∀ n : Nat, Bytes (enc n) := by
  intro n
  induction n using Nat.strongRecOn with
  | ind n ih =>
    intro b hb
    by_cases c : n ≤ 127
    · rw [enc_small c, List.mem_singleton] at hb
      omega
    · rw [enc_big c] at hb
      rcases List.mem_cons.mp hb with e | hb
      · omega
      · exact ih (n / 128) (by omega) b hb
/-- what a row holds from its begin on -/
inductive Rd where
  | num (n : Int) (len : Nat)
  | trunc
  | malf
def rdGo : Nat → Nat → Int → List Int → Rd
  | 0, _, _, _ => .malf
  | _ + 1, _, _, [] => .trunc
  | f + 1, c, acc, b :: bs => if b < 128 then (if b = 0 ∧ 0 < c then .malf else .num (acc + b * 128 ^ c) (c + 1)) else rdGo f (c + 1) (acc + (b - 128) * 128 ^ c) bs
def rd (bs : List Int) : Rd := rdGo 500 0 0 bs
theorem rd_enc : ∀ (n : Nat) (f c : Nat) (acc : Int) (rest : List Int), (enc n).length ≤ f → (c = 0 ∨ n ≠ 0) → rdGo f c acc (enc n ++ rest) = .num (acc + n * 128 ^ c) (c + (enc n).length) := by
  intro n
  induction n using Nat.strongRecOn with
  | ind n ih =>
    intro f c acc rest hl hc
    by_cases h : n ≤ 127
    · rw [enc_small h] at hl ⊢
      obtain ⟨f, rfl⟩ : ∃ g, f = g + 1 := ⟨f - 1, by simp at hl; omega⟩
      show (if (n : Int) < 128 then (if (n : Int) = 0 ∧ 0 < c then Rd.malf else .num (acc + n * 128 ^ c) (c + 1)) else _) = _
      rw [if_pos (by omega), if_neg (by omega)]
      rfl
    · rw [enc_big h] at hl ⊢
      obtain ⟨f, rfl⟩ : ∃ g, f = g + 1 := ⟨f - 1, by simp at hl; omega⟩
      show (if ((128 + n % 128 : Nat) : Int) < 128 then _ else rdGo f (c + 1) (acc + (((128 + n % 128 : Nat) : Int) - 128) * 128 ^ c) (enc (n / 128) ++ rest)) = _
      rw [if_neg (by omega), ih (n / 128) (by omega) f (c + 1) _ rest (by simp at hl; omega) (.inr (by omega)), List.length_cons]
      have e : ((n : Int)) = ((n / 128 : Nat) : Int) * 128 + ((n % 128 : Nat) : Int) := by omega
      have e1 : (((128 + n % 128 : Nat) : Int) - 128) = ((n % 128 : Nat) : Int) := by omega
      rw [e1]
      congr 1
      · rw [Int.pow_succ, Int.mul_comm (128 ^ c) 128, ← Int.mul_assoc, Int.add_assoc, ← Int.add_mul]
        congr 2
        omega
      · omega
def sp_take (K : PySem.W.Frag) (cT cM : Addr) : Sp := fun vs H Q E => ∃ (a : Addr) (bs : List Int) (i : Nat), vs = [.ref a, .int (i : Int)] ∧ SqL K H a (bs.map V.int) ∧ Bytes bs ∧ i ≤ bs.length ∧ bs.length ≤ 90000 ∧
  (∀ n c, rd (bs.drop i) = .num n c → ∀ p H', H p = none → Same H H' → H' p = some (.tup [.int n, .int ((i + c : Nat) : Int)]) → Q (.ref p) H') ∧ (rd (bs.drop i) = .trunc → E (.ref cT) none H) ∧ (rd (bs.drop i) = .malf → E (.ref cM) none H)
theorem pow128 (t : Nat) : (2 : Int) ^ (7 * t) = 128 ^ t := by rw [Int.pow_mul]; rfl
theorem and127 : V.int 127 = V.int (2 ^ 7 - 1) := by congr 1
section
variable {P : Program} {w : World} {K : PySem.W.Frag} {mg : Str → Option Value} {base : Heap}
theorem ok_take_number (T : TX K mg) : FnOk P w K mg base (L2.CX P w) 1 T.a_take_number T.d_take_number ["row", "index"] (sp_take K T.a_Truncated T.a_Malformed) := by
  refine T.F_take_number.okX sc_take_number (fun vs H Q E h => ?_) (fun cdv A outer s H vs Q E hr h => ?_)
  · obtain ⟨a, bs, i, rfl, _⟩ := h
    rfl
  · obtain ⟨a, bs, i, rfl, hS, hb, hi, hlen, q, qT, qM⟩ := h
    refine ⟨_, (pss_cons (ps_set (i := 2) sc_take_number.nd rfl (Or.inl rfl) pe_int)
      (pss_cons (ps_set (i := 3) sc_take_number.nd rfl (Or.inl rfl) pe_int)
      (pss_cons (ps_for (passes_of rfl) rfl (pi_range2 (by rfl) T.n_range (pa_cons (pv 1) (pa_cons (pe_callB (call_min2 rfl) (by rfl) T.n_min (by decide +kernel) (pa_cons (pe_callB call_len_seq (by rfl) T.n_len PySem.boot_len (pa_cons (pv 0) pa_nil)) (pa_cons (pe_op op_add (pv 1) (pe_glob (v := .int 500) (by rfl) T.c_MOST_BYTES ⟨_, rfl⟩)) pa_nil))) pa_nil))) (pg_name (i := 4) sc_take_number.nd rfl (Or.inl rfl))
        (pss_cons (ps_set (i := 5) sc_take_number.nd rfl (Or.inl rfl) (pe_ix ix_list (pv 0) (pv 4) (fun _ _ => rfl)))
        (pss_cons (ps_aug (i := 2) sc_take_number.nd rfl (Or.inl rfl) (pe_op op_shlN (pe_op op_andM (pv 5) pe_int) (pv 3)) ip_or)
        (pss_cons (ps_aug (i := 3) sc_take_number.nd rfl (Or.inl rfl) pe_int ip_add)
        (pss_one (ps_if (pt_cmpR op_lt (pv 5) pe_int (nomark _)) (pss_cons (ps_if (PW.pt (pw_and (pt_cmpR op_eq (pv 5) pe_int (nomark _)) (pw_and1 (pt_cmpR op_gt (pv 4) (pv 1) (nomark _))))) (pss_one (ps_raise rfl (takes_of rfl rfl rfl rfl) (pmk_own PySem.F.excBase_ValueError T.x_Malformed T.g_Malformed T.k_Malformed (raises_own T.s_Malformed T.t_Malformed) rfl))) pss_nil)
          (pss_one (ps_ret (pe_tup (pa_cons (pv 2) (pa_cons (pe_op op_add (pv 4) pe_int) pa_nil)))))) pss_nil))))))
      (pss_cons (ps_if (pt_cmpR op_ge (pe_op op_sub (pe_callB call_len_seq (by rfl) T.n_len PySem.boot_len (pa_cons (pv 0) pa_nil)) (pv 1)) (pe_glob (v := .int 500) (by rfl) T.c_MOST_BYTES ⟨_, rfl⟩) (nomark _)) (pss_one (ps_raise rfl (takes_of rfl rfl rfl rfl) (pmk_own PySem.F.excBase_ValueError T.x_Malformed T.g_Malformed T.k_Malformed (raises_own T.s_Malformed T.t_Malformed) rfl))) pss_nil)
      (pss_one (ps_raise rfl (takes_of rfl rfl rfl rfl) (pmk_own PySem.F.excBase_ValueError T.x_Truncated T.g_Truncated T.k_Truncated (raises_own T.s_Truncated T.t_Truncated) rfl))))))), ?_⟩
    have hml : (bs.map V.int).length = bs.length := List.length_map _
    refine ⟨_, rfl, _, rfl, a, _, rfl, .inl hS, _, rfl, _, _, rfl, rfl, _, _, rfl, ?_⟩
    obtain ⟨m, hm, hmi⟩ : ∃ m : Nat, (if (i : Int) + 500 < (bs.length : Int) then (i : Int) + 500 else (bs.length : Int)) = ((i + m : Nat) : Int) ∧ m = min (bs.length - i) 500 := by
      refine ⟨min (bs.length - i) 500, ?_, rfl⟩
      split <;> omega
    refine ⟨(i : Int), ((i + m : Nat) : Int), ?_, ⟨by omega, by omega, by omega, by omega⟩, for_range (lo := (i : Int)) (n := _) (fun t σ H' => H = H' ∧ ∃ (x4 x5 : Option V) (acc : Int), σ = [some (.ref a), some (.int (i : Int)), some (.int acc), some (.int ((7 * t : Nat) : Int)), x4, x5] ∧ 0 ≤ acc ∧ acc < 2 ^ (7 * t) ∧ rd (bs.drop i) = rdGo (500 - t) t acc (bs.drop (i + t)))
      ?_ ?_ ?_⟩
    · try dsimp only
      rw [hml, hm]
    · exact ⟨rfl, none, none, 0, rfl, by decide, by decide, rfl⟩
    · rintro t σ _ ht ⟨rfl, x4, x5, acc, rfl, h0, h1, hrd⟩
      have ht' : t < m := by omega
      have hlt : i + t < bs.length := by omega
      have hg : bs[i + t]? = some bs[i + t] := List.getElem?_eq_getElem hlt
      have hbb := hb _ (List.getElem_mem hlt)
      have hdr : bs.drop (i + t) = bs[i + t] :: bs.drop (i + (t + 1)) := List.drop_eq_getElem_cons hlt
      have ga : atI (bs.map V.int) ((i : Int) + (t : Int)) = some (.int bs[i + t]) := by
        have := at_map (f := V.int) hg
        rwa [Int.natCast_add] at this
      rw [hdr, show 500 - t = (499 - t) + 1 by omega] at hrd
      generalize bs[i + t] = b at hg hbb hrd ga hdr
      have hp : (0 : Int) < 2 ^ (7 * t) := Int.pow_pos (by decide)
      refine ⟨_, rfl, _, rfl, a, _, _, .int b, rfl, rfl, hS, ga, ?_⟩
      refine ⟨_, rfl, _, rfl, b, 7, rfl, and127, _, rfl, b % 2 ^ 7, 7 * t, rfl, rfl, ⟨by omega, ?_⟩, acc, b % 2 ^ 7, 7 * t, rfl, rfl, ⟨by omega, h0, h1⟩, ?_⟩
      · obtain ⟨k, hk⟩ : ∃ k : Nat, b % 2 ^ 7 = (k : Int) := ⟨(b % 2 ^ 7).toNat, by omega⟩
        rw [hk]
        have := bits_small k (by omega)
        omega
      refine ⟨_, rfl, _, _, rfl, rfl, ?_⟩
      refine ⟨_, rfl, _, _, rfl, rfl, _, rfl, ifd (fun hc => ?_) (fun hc => ?_)⟩
      · have eb : b % 2 ^ 7 = b := by omega
        have hgo : rdGo ((499 - t) + 1) t acc (b :: bs.drop (i + (t + 1))) = if b = 0 ∧ 0 < t then .malf else .num (acc + b * 128 ^ t) (t + 1) := by
          show (if b < 128 then _ else _) = _
          rw [if_pos hc]
        rw [hgo] at hrd
        refine ⟨_, rfl, rfl, _, rfl, ifd (fun hz => ?_) (fun hz => ?_)⟩
        · have hz' : b = 0 := V.int.inj hz
          refine ⟨_, rfl, _, rfl, _, _, rfl, rfl, _, rfl, ifd (fun hq => ?_) (fun hq => ?_)⟩
          · rw [if_pos ⟨hz', by omega⟩] at hrd
            exact qM hrd
          · rw [if_neg (by omega)] at hrd
            refine ⟨_, rfl, _, rfl, _, _, rfl, rfl, (by show 2 ≤ sizeLine; decide), fun p hp => q _ _ hrd p _ hp (same_upd hp) ?_⟩
            rw [upd_same, eb, pow128]
            congr 6
        · rw [if_neg (fun z => hz (by rw [z.1]))] at hrd
          refine ⟨_, rfl, _, rfl, _, _, rfl, rfl, (by show 2 ≤ sizeLine; decide), fun p hp => q _ _ hrd p _ hp (same_upd hp) ?_⟩
          rw [upd_same, eb, pow128]
          congr 6
      · have eb : b % 2 ^ 7 = b - 128 := by omega
        have hgo : rdGo ((499 - t) + 1) t acc (b :: bs.drop (i + (t + 1))) = rdGo (499 - t) (t + 1) (acc + (b - 128) * 128 ^ t) (bs.drop (i + (t + 1))) := by
          show (if b < 128 then _ else _) = _
          rw [if_neg hc]
        rw [hgo] at hrd
        refine ⟨rfl, some (.int ((i : Int) + (t : Int))), some (.int b), acc + (b - 128) * 2 ^ (7 * t), ?_, ?_, ?_, ?_⟩
        · rw [eb]
          have : ((7 * t : Nat) : Int) + 7 = ((7 * (t + 1) : Nat) : Int) := by omega
          show [_, _, _, some (V.int (((7 * t : Nat) : Int) + 7)), _, _] = _
          rw [this]
        · have := Int.mul_nonneg (show (0 : Int) ≤ b - 128 by omega) (Int.le_of_lt hp)
          omega
        · have e1 : (2 : Int) ^ (7 * (t + 1)) = 128 * 2 ^ (7 * t) := by rw [pow128, pow128, Int.pow_succ, Int.mul_comm]
          have e2 : (b - 128) * 2 ^ (7 * t) ≤ 127 * 2 ^ (7 * t) := Int.mul_le_mul_of_nonneg_right (by omega) (Int.le_of_lt hp)
          rw [e1]
          omega
        · rw [pow128, show 500 - (t + 1) = 499 - t by omega]
          exact hrd
    · rintro σ _ ⟨rfl, x4, x5, acc, rfl, h0, h1, hrd⟩
      have hn : (((i + m : Nat) : Int) - (i : Int)).toNat = m := by omega
      rw [hn] at hrd
      refine ⟨_, rfl, a, _, rfl, .inl hS, _, rfl, _, _, rfl, rfl, _, _, rfl, rfl, _, rfl, ifd (fun hc => ?_) (fun hc => ?_)⟩
      · rw [hml] at hc
        have : m = 500 := by omega
        subst this
        exact qM hrd
      · rw [hml] at hc
        have h2 : bs.drop (i + m) = [] := List.drop_of_length_le (by omega)
        rw [h2, show 500 - m = (499 - m) + 1 by omega] at hrd
        exact qT hrd
end
def sp_put (K : PySem.W.Frag) : Sp := fun vs H Q _ => ∃ (n : Nat), vs = [.int (n : Int)] ∧ n < Lim ∧ ∀ p H', H p = none → Same H H' → H' p = some (.lst ((enc n).map V.int)) → Q (.ref p) H'
section
variable {P : Program} {w : World} {K : PySem.W.Frag} {mg : Str → Option Value} {base : Heap}
theorem ok_put_number (T : TX K mg) : FnOk P w K mg base CX0 1 T.a_put_number T.d_put_number ["number"] (sp_put K) := by
  refine T.F_put_number.ok sc_put_number (fun vs H Q E h => ?_) (fun cdv A outer s H vs Q E hr h => ?_)
  · obtain ⟨n, rfl, _⟩ := h
    rfl
  · obtain ⟨n, rfl, hn, q⟩ := h
    refine ⟨_, (pss_cons (ps_set (i := 1) sc_put_number.nd rfl (Or.inl rfl) (pe_lst pa_nil))
      (pss_cons (ps_while PassesOwn.never (pt_cmpR op_gt (pv 0) pe_int (nomark _))
        (pss_cons (ps_expr (pe_bm PySem.F.plainAttrs_list PySem.F.slot_list_append PySem.F.type_list_append mt_append (pv 1) (pa_cons (pe_op op_add pe_int (pe_op op_andM (pv 0) pe_int)) pa_nil)))
        (pss_one (ps_aug (i := 0) sc_put_number.nd rfl (Or.inl rfl) pe_int ip_shr))))
      (pss_cons (ps_expr (pe_bm PySem.F.plainAttrs_list PySem.F.slot_list_append PySem.F.type_list_append mt_append (pv 1) (pa_cons (pv 0) pa_nil)))
      (pss_one (ps_ret (pv 1)))))), ?_⟩
    have hl := enc_lim hn
    refine ⟨Nat.zero_le _, fun o ho => ?_⟩
    refine while_by (fun σ H' => ∃ (xs : List Int) (m : Nat), σ = [some (.int (m : Int)), some (.ref o)] ∧ Same H H' ∧ H' o = some (.lst (xs.map V.int)) ∧ xs ++ enc m = enc n) (fun σ _ => match σ with | some (.int m) :: _ => m.toNat | _ => 0)
      ⟨[], n, rfl, same_upd ho, upd_same, rfl⟩ ?_ (fun σ H Q Q' hq ⟨v, h1, i, j, h2, h3, k, h4, h5⟩ => ⟨v, h1, i, j, h2, h3, k, h4, hq _ _ h5⟩)
    rintro σ H' ⟨xs, m, rfl, s1, e1, hx⟩
    have hxl : xs.length ≤ 500 := by
      have := congrArg List.length hx
      rw [List.length_append] at this
      omega
    refine ⟨_, rfl, _, _, rfl, rfl, _, rfl, ifd (fun hc => ?_) (fun hc => ?_)⟩
    · have hm : ¬ m ≤ 127 := by omega
      refine ⟨_, rfl, .inl ⟨rfl, _, sql e1⟩, _, rfl, (m : Int), 7, rfl, and127, _, _, rfl, rfl, o, _, _, rfl, rfl, e1, szl (by rw [List.length_map]; omega), ?_⟩
      refine ⟨_, rfl, (m : Int), 7, rfl, rfl, ?_⟩
      have e7 : (m : Int) / 2 ^ 7 = ((m / 128 : Nat) : Int) := by rw [Int.natCast_ediv]; rfl
      have e8 : 128 + (m : Int) % 2 ^ 7 = ((128 + m % 128 : Nat) : Int) := by rw [Int.natCast_add, Int.natCast_emod]; rfl
      refine ⟨⟨xs ++ [((128 + m % 128 : Nat) : Int)], m / 128, ?_, same_put s1 ho, ?_, ?_⟩, ?_⟩
      · show [some (V.int ((m : Int) / 2 ^ 7)), _] = _
        rw [e7]
      · rw [upd_same, List.map_append]
        show some (HO.lst (xs.map V.int ++ [V.int (128 + (m : Int) % 2 ^ 7)])) = _
        rw [e8]
        rfl
      · rw [List.append_assoc, ← hx, enc_big hm]
        rfl
      · show ((m : Int) / 2 ^ 7).toNat < ((m : Int)).toNat
        rw [e7]
        omega
    · have hm : m ≤ 127 := by omega
      rw [enc_small hm] at hx
      refine ⟨_, rfl, .inl ⟨rfl, _, sql e1⟩, _, rfl, o, _, _, rfl, rfl, e1, szl (by rw [List.length_map]; omega), ?_⟩
      refine ⟨_, rfl, q o _ ho (same_put s1 ho) ?_⟩
      rw [upd_same, ← hx, List.map_append]
      rfl
end
def plainC (c : Nat) : Bool := !(decide (c < 32) || decide (126 < c) || decide (c = 37))
def plainS (z : Str) : Bool := z.cps.toList.all plainC
theorem zlen (z : Str) : z.length = z.cps.toList.length := by show z.cps.size = _; simp
theorem str_ext {a b : Str} (h : a.cps.toList = b.cps.toList) : a = b := by
  cases a; cases b
  simp only [Str.mk.injEq]
  exact Array.toList_inj.mp h
def sp_str (f : Str → Bool) : Sp := fun vs H Q _ => ∃ z, vs = [.str z] ∧ z.length ≤ 100000 ∧ Q (.bl (f z)) H
theorem all_take {α : Type} {l : List α} {i : Nat} {x : α} {f : α → Bool} (h : l[i]? = some x) : (l.take (i + 1)).all f = ((l.take i).all f && f x) := by
  rw [take_more h, List.all_append]
  simp
theorem cps_at {z : Str} {i c : Nat} (h : z.cps[i]? = some c) : z.cps.toList[i]? = some c := by simpa using h
theorem sizeL (z : Str) : z.cps.size = z.cps.toList.length := by simp
theorem sign_inj {a b : Nat} (h : (⟨#[a]⟩ : Str) = ⟨#[b]⟩) : a = b := by
  injection h with h
  injection h with h
  injection h with h
section
variable {P : Program} {w : World} {K : PySem.W.Frag} {mg : Str → Option Value} {base : Heap}
theorem ok_has_plain_characters (T : TX K mg) : FnOk P w K mg base CX0 1 T.a_has_plain_characters T.d_has_plain_characters ["text"] (sp_str plainS) := by
  refine T.F_has_plain_characters.ok sc_has_plain_characters (fun vs H Q E h => ?_) (fun cdv A outer s H vs Q E hr h => ?_)
  · obtain ⟨z, rfl, _⟩ := h
    rfl
  · obtain ⟨z, rfl, hz, q⟩ := h
    refine ⟨_, (pss_cons (ps_for PassesOwn.never rfl (pi_str (pv 0)) (pg_name (i := 1) sc_has_plain_characters.nd rfl (Or.inl rfl))
        (pss_cons (ps_set (i := 2) sc_has_plain_characters.nd rfl (Or.inl rfl) (pe_callB call_ord (by rfl) T.n_ord (by decide +kernel) (pa_cons (pv 1) pa_nil)))
        (pss_one (ps_if (PW.pt (pw_or (pt_cmpR op_lt (pv 2) (pe_glob (v := .int 32) (by rfl) T.c_SPACE ⟨_, rfl⟩) (nomark _)) (pw_or (pt_cmpR op_gt (pv 2) (pe_glob (v := .int 126) (by rfl) T.c_TILDE ⟨_, rfl⟩) (nomark _)) (pw_or1 (pt_cmpR op_eq (pv 2) (pe_glob (v := .int 37) (by rfl) T.c_PERCENT ⟨_, rfl⟩) (nomark _)))))) (pss_one (ps_ret pe_bl)) pss_nil))))
      (pss_one (ps_ret pe_bl))), ?_⟩
    refine ⟨_, rfl, z, rfl, for_it walk_str (fun i σ H2 => H = H2 ∧ (z.cps.toList.take i).all plainC = true ∧ ∃ x1 x2, σ = [some (.str z), x1, x2]) ⟨rfl, rfl, none, none, rfl⟩ (fun _ _ _ _ _ => trivial) ?_ ?_⟩
    · rintro i x σ _ _ hi ⟨rfl, ha, x1, x2, rfl⟩ ⟨rfl, c, hc, rfl⟩
      have hm := all_take (f := plainC) (cps_at hc)
      rw [ha, Bool.true_and] at hm
      have hno : plainC c = false → plainS z = false := fun h => by
        unfold plainS
        rw [List.all_eq_false]
        exact ⟨c, List.mem_of_getElem? (cps_at hc), by rw [h]; simp⟩
      refine ⟨_, rfl, _, rfl, rfl, _, rfl, _, _, rfl, rfl, _, rfl, ifd (fun h1 => ?_) (fun h1 => ?_)⟩
      · refine (if_pos rfl).mpr ?_
        have : plainC c = false := by
          unfold plainC
          have h1' : (c : Int) < 32 := h1
          simp [show c < 32 by omega]
        rw [hno this] at q
        exact q
      · refine ⟨_, rfl, _, _, rfl, rfl, _, rfl, ifd (fun h2 => ?_) (fun h2 => ?_)⟩
        · refine (if_pos rfl).mpr ?_
          have : plainC c = false := by
            unfold plainC
            have h2' : (126 : Int) < (c : Int) := h2
            simp [show 126 < c by omega]
          rw [hno this] at q
          exact q
        · refine ⟨_, rfl, rfl, _, rfl, ifd (fun h3 => ?_) (fun h3 => ?_)⟩
          · have h3' : ((c : Nat) : Int) = 37 := V.int.inj h3
            have : plainC c = false := by
              unfold plainC
              simp [show c = 37 by omega]
            rw [hno this] at q
            exact q
          · have h3' : ¬ ((c : Nat) : Int) = 37 := fun z => h3 (by show V.int _ = V.int _; rw [← z]; rfl)
            have h1' : ¬ (c : Int) < 32 := h1
            have h2' : ¬ (126 : Int) < (c : Int) := h2
            refine ⟨rfl, ?_, _, _, rfl⟩
            rw [hm]
            unfold plainC
            simp only [Bool.not_eq_true', Bool.or_eq_false_iff, decide_eq_false_iff_not]
            omega
    · rintro σ _ ⟨rfl, ha, x1, x2, rfl⟩
      rw [sizeL, List.take_length] at ha
      have : plainS z = true := ha
      rw [this] at q
      exact q
end
/-! values: the mirror -/
mutual
def pkL : PyData → List Int
  | .none => [0]
  | .bool b => [if b = true then 2 else 1]
  | .int i => if i < 0 then 4 :: enc (-1 - i).toNat else 3 :: enc i.toNat
  | .str x => 5 :: (enc x.length ++ x.cps.toList.map fun (c : Nat) => (c : Int) - 32)
  | .tuple ds => 6 :: (enc ds.length ++ pkA ds)
  | _ => []
def pkA : List PyData → List Int
  | [] => []
  | d :: ds => pkL d ++ pkA ds
end
def bitsOk (i : Int) : Bool := decide (Builtin.Int.intBits i ≤ 3000)
/-! a value, n tuples deep at most -/
mutual
def okV : Nat → PyData → Bool
  | _, .none => true
  | _, .bool _ => true
  | _, .int i => bitsOk i
  | _, .str x => decide (x.length ≤ 60000) && plainS x
  | n + 1, .tuple ds => decide (ds.length ≤ 60000) && okA n ds
  | _, _ => false
def okA : Nat → List PyData → Bool
  | _, [] => true
  | n, d :: ds => okV n d && okA n ds
end
/-! what is asked of a thing that is looked at: its texts and tuples are no longer than a line -/
mutual
def fits : PyData → Bool
  | .str x => decide (x.length ≤ 90000)
  | .tuple ds => decide (ds.length ≤ 90000) && fitsA ds
  | .list _ => true
  | .dict _ => false
  | _ => true
def fitsA : List PyData → Bool
  | [] => true
  | d :: ds => fits d && fitsA ds
end
theorem okA_at {n : Nat} : ∀ {ds : List PyData} {i : Nat} {d : PyData}, okA n ds = true → ds[i]? = some d → okV n d = true
  | [], i, _, _, h => by simp at h
  | d :: ds, 0, _, h, e => by
    simp only [List.getElem?_cons_zero, Option.some.injEq] at e
    subst e
    exact (Bool.and_eq_true_iff.mp (show (okV n d && okA n ds) = true by simpa [okA] using h)).1
  | d :: ds, i + 1, _, h, e => okA_at (i := i) ((Bool.and_eq_true_iff.mp (show (okV n d && okA n ds) = true by simpa [okA] using h)).2) (by simpa using e)
theorem okA_take {n i : Nat} : ∀ {ds : List PyData} {d : PyData}, ds[i]? = some d → okA n (ds.take (i + 1)) = (okA n (ds.take i) && okV n d) := by
  induction i with
  | zero =>
    intro ds d h
    cases ds with
    | nil => simp at h
    | cons e ds =>
      simp only [List.getElem?_cons_zero, Option.some.injEq] at h
      subst h
      simp [okA]
  | succ i ih =>
    intro ds d h
    cases ds with
    | nil => simp at h
    | cons e ds =>
      simp only [List.getElem?_cons_succ] at h
      rw [List.take_succ_cons, List.take_succ_cons]
      show (okV n e && okA n (ds.take (i + 1))) = ((okV n e && okA n (ds.take i)) && okV n d)
      rw [ih h, Bool.and_assoc]
theorem okA_no {n i : Nat} {ds : List PyData} {d : PyData} (h : ds[i]? = some d) (hd : okV n d = false) : okA n ds = false := by
  cases e : okA n ds with
  | false => rfl
  | true => rw [okA_at e h] at hd; cases hd
theorem fitsA_at : ∀ {ds : List PyData} {i : Nat} {d : PyData}, fitsA ds = true → ds[i]? = some d → fits d = true
  | [], i, _, _, h => by simp at h
  | d :: ds, 0, _, h, e => by
    simp only [List.getElem?_cons_zero, Option.some.injEq] at e
    subst e
    exact (Bool.and_eq_true_iff.mp (show (fits d && fitsA ds) = true by simpa [fitsA] using h)).1
  | d :: ds, i + 1, _, h, e => fitsA_at (i := i) ((Bool.and_eq_true_iff.mp (show (fits d && fitsA ds) = true by simpa [fitsA] using h)).2) (by simpa using e)
theorem pkA_take {i : Nat} : ∀ {ds : List PyData} {d : PyData}, ds[i]? = some d → pkA (ds.take (i + 1)) = pkA (ds.take i) ++ pkL d := by
  induction i with
  | zero =>
    intro ds d h
    cases ds with
    | nil => simp at h
    | cons e ds =>
      simp only [List.getElem?_cons_zero, Option.some.injEq] at h
      subst h
      simp [pkA]
  | succ i ih =>
    intro ds d h
    cases ds with
    | nil => simp at h
    | cons e ds =>
      simp only [List.getElem?_cons_succ] at h
      rw [List.take_succ_cons, List.take_succ_cons]
      show pkL e ++ pkA (ds.take (i + 1)) = (pkL e ++ pkA (ds.take i)) ++ pkL d
      rw [ih h, List.append_assoc]
theorem pkA_pre {i : Nat} : ∀ {ds : List PyData}, (pkA (ds.take i)).length ≤ (pkA ds).length := fun {ds} => by
  induction ds generalizing i with
  | nil => simp
  | cons d ds ih =>
    cases i with
    | zero => simp [pkA]
    | succ i =>
      rw [List.take_succ_cons]
      show (pkL d ++ pkA (ds.take i)).length ≤ (pkL d ++ pkA ds).length
      rw [List.length_append, List.length_append]
      have := ih (i := i)
      omega
theorem pkL_at {i : Nat} {ds : List PyData} {d : PyData} (h : ds[i]? = some d) : (pkA (ds.take i)).length + (pkL d).length ≤ (pkA ds).length := by
  have := pkA_pre (i := i + 1) (ds := ds)
  rw [pkA_take h, List.length_append] at this
  exact this
/-! isinstance of data -/
def kindOf : PyData → String
  | .none => "NoneType"
  | .bool _ => "bool"
  | .int _ => "int"
  | .str _ => "str"
  | .list _ => "list"
  | .tuple _ => "tuple"
  | .dict _ => "dict"
theorem dp_tyx {K : PySem.W.Frag} {H : Hp} {v : V} {d : PyData} (h : Dp K H v d) : TyX K H v (.type (kindOf d)) := by
  cases h with
  | non => exact .base .non
  | bl b => exact .base (.bl b)
  | int i => exact .base (.int i)
  | str x => exact .base (.str x)
  | lst h _ => exact tyx_l h
  | tup h _ => exact tyx_t h
def isK (k t : String) : Bool := k == t || (k == "bool" && t == "int")
def kinds6 : List String := ["NoneType", "bool", "int", "str", "list", "tuple"]
theorem kind_in (d : PyData) : kindOf d = "dict" ∨ kindOf d ∈ kinds6 := by
  cases d <;> first | exact .inl rfl | exact .inr (by unfold kindOf kinds6; simp)
theorem kit_all : ∀ k ∈ kinds6, ∀ t ∈ ["bool", "int", "str", "tuple", "list"], kitB k t = some (isK k t) := by decide +kernel
theorem dp_nodict {K : PySem.W.Frag} {H : Hp} {v : V} {d : PyData} (h : Dp K H v d) : kindOf d ∈ kinds6 := by
  cases h <;> (unfold kindOf kinds6; simp)
theorem isi_d {K : PySem.W.Frag} {H : Hp} {v : V} {d : PyData} {t : String} {Q : VK} (h : Dp K H v d) (ht : t ∈ ["bool", "int", "str", "tuple", "list"]) (q : Q (.bl (isK (kindOf d) t)) H) : rIsi K [v, .ty t] H Q :=
  ⟨v, .ty t, .type (kindOf d), .type t, isK (kindOf d) t, rfl, .ty _, dp_tyx h, kit_ty (kit_all _ (dp_nodict h) _ ht), q⟩
theorem tisi {K : PySem.W.Frag} {σ : L2.St} {H : Hp} {Q : Bool → Hp → Prop} {i : Nat} {v : V} {d : PyData} {t : String} (hv : σ[i]? = some (some v)) (hd : Dp K H v d) (q : Q (isK (kindOf d) t) H) (ht : t ∈ ["bool", "int", "str", "tuple", "list"] := by simp) :
    tB (tCB (rIsi K) (tCons (tVar i) (tCons (tC (.ty t)) tNil))) σ H Q := ⟨v, hv, (isi_d hd ht ⟨_, rfl, q⟩ : rIsi K [v, .ty t] H (fun x H1 => ∃ c, x = .bl c ∧ Q c H1))⟩
theorem okV_non (n : Nat) : okV n .none = true := by cases n <;> simp [okV]
theorem okV_bl (n : Nat) (b : Bool) : okV n (.bool b) = true := by cases n <;> simp [okV]
theorem okV_int (n : Nat) (i : Int) : okV n (.int i) = decide (((Builtin.Int.intBits i : Nat) : Int) ≤ 3000) := by
  have : okV n (.int i) = bitsOk i := by cases n <;> simp [okV]
  rw [this]
  unfold bitsOk
  rw [decide_eq_decide]
  omega
theorem okV_str (n : Nat) (x : Str) : okV n (.str x) = (decide (((x.length : Nat) : Int) ≤ 60000) && plainS x) := by
  have : okV n (.str x) = (decide (x.length ≤ 60000) && plainS x) := by cases n <;> simp [okV]
  rw [this]
  congr 1
  rw [decide_eq_decide]
  omega
theorem okV_lst (n : Nat) (ds : List PyData) : okV n (.list ds) = false := by cases n <;> simp [okV]
theorem okV_tup0 (ds : List PyData) : okV 0 (.tuple ds) = false := by simp [okV]
theorem okV_tup (n : Nat) (ds : List PyData) : okV (n + 1) (.tuple ds) = (decide (ds.length ≤ 60000) && okA n ds) := by simp [okV]
theorem fits_tup {ds : List PyData} (h : fits (.tuple ds) = true) : ds.length ≤ 90000 ∧ fitsA ds = true := by
  simp only [fits, Bool.and_eq_true, decide_eq_true_eq] at h
  exact h
theorem fits_str {x : Str} (h : fits (.str x) = true) : x.length ≤ 90000 := by
  simp only [fits, decide_eq_true_eq] at h
  exact h
end My
namespace HotE
open PySem PySem.Spec PyProof.Rows HotX
section
variable {prog : Program} {w : World} {A : Around} {E : Value → Shared → Prop} {s : Shared} {x1 : Addr}
theorem tup_end {it t : Addr} {i : Nat} {its : Array Value} {Q : Option Value → Shared → Prop} (hot : HotAt A x1 s.heap) (hne : it ≠ x1) (hit : s.heap.IsTupleIter it t i) (ht : s.heap.IsTuple t its) (hx : its[i]? = none)
    (hQ : ∀ h', Heap.ExtBut it s.heap h' → Q none { s with heap := h' }) : wpAny (model prog w) A (pyNext (.ref it)) Q E s := by
  obtain ⟨o, ho, hc, hd⟩ := id hit
  obtain ⟨ol, hol, _, nl, hdl⟩ := ht
  obtain ⟨hh, o1, vs1, h1, d1, c1⟩ := hot
  unfold pyNext
  refine wpAny_bind (wpAny_attempt (wpAny_callSpecial?_slot (name := Str.ofString "__next__") hit.typeIs F.slot_tuple_iterator_next (wpAny_call_entry F.slot_tuple_iterator_next hit.typeIs F.entry_tuple_iterator_next ?_ (F.args_tuple_iterator_next_1 _))))
  show wpAny _ _ (field (.ref it) 0 >>= _) _ _ s
  refine wpAny_bind (wpAny_field ho hd (x := .ref t) rfl ?_)
  show wpAny _ _ (if (Value.ref t == Value.none) = true then _ else _) _ _ s
  rw [if_neg (show ¬ ((Value.ref t == Value.none) = true) from nofun)]
  show wpAny _ _ (field (.ref it) 1 >>= _) _ _ s
  refine wpAny_bind (wpAny_field ho hd (x := .int i 0) rfl ?_)
  show wpAny _ _ (seqItems? (.ref t) >>= _) _ _ s
  refine wpAny_bind (wpAny_seqItems hol hdl ?_)
  simp only [Int.toNat_natCast, hx]
  refine wpAny_bind (wpAny_rule (wpAny_bind (wpAny_setField ho hd (by simp) ?_)))
  have h1 := (Heap.get?_update_other s.heap (Obj.mapFields (·.setIfInBounds 0 Value.none)) hne).trans h1
  show wpAny _ _ (newExc (.type "StopIteration") [] >>= _) _ _ _
  refine wpAny_bind ?_
  simp only [newExc, newTuple]
  refine wpAny_bind (wpAny_newObj_type ?_ (by size_fits))
  refine wpAny_bind (m := firstArgMember _ _) (wpAny_of_eq (a := Value.none) (by first | rfl | (simp only [firstArgMember]; rfl)) ?_)
  refine wpAny_newObj_type ?_ (by size_fits)
  refine raiseNew_hot ⟨hh, _, _, Heap.get?_push_of_some _ (Heap.get?_push_of_some _ h1), d1, c1⟩ (Nat.ne_of_lt (Heap.lt_size (Heap.get?_push_of_some _ h1))) (Heap.get?_push_size _ rfl) rfl (by first | (simp; done) | (simp; omega)) ?_
  refine wpAny_bind (wpAny_isInstance (T := "StopIteration") (b := true) ⟨_, Heap.get?_update_self _ (Heap.get?_push_size _ rfl) rfl, rfl⟩ isSubtype_stop ?_)
  refine wpAny_pure (hQ _ fun b o ne e => ?_)
  rw [Heap.get?_update_other _ _ (Nat.ne_of_gt (Heap.lt_size (Heap.get?_push_of_some _ ((Heap.get?_update_other _ _ (Ne.symm ne)).trans e))))]
  exact Heap.get?_push_of_some _ (Heap.get?_push_of_some _ ((Heap.get?_update_other _ _ (Ne.symm ne)).trans e))
theorem str_end {it : Addr} {x : Str} {t : Tok} {i : Nat} {ty : String} {Q : Option Value → Shared → Prop} (hty : ty = "str_ascii_iterator" ∨ ty = "str_iterator") (hot : HotAt A x1 s.heap) (hne : it ≠ x1) (hit : s.heap.IsStrIter it ty x t i) (hx : x.cps[i]? = none)
    (hQ : ∀ h', Heap.ExtBut it s.heap h' → Q none { s with heap := h' }) : wpAny (model prog w) A (pyNext (.ref it)) Q E s := by
  obtain ⟨o, ho, hc, hd⟩ := id hit
  obtain ⟨hh, o1, vs1, h1, d1, c1⟩ := hot
  have h1 := (Heap.get?_update_other s.heap (Obj.mapFields (·.setIfInBounds 0 Value.none)) hne).trans h1
  unfold pyNext
  rcases hty with e | e
  · rw [e] at hit
    refine wpAny_bind (wpAny_attempt (wpAny_callSpecial?_slot (name := Str.ofString "__next__") hit.typeIs F.slot_str_ascii_iterator_next (wpAny_call_entry F.slot_str_ascii_iterator_next hit.typeIs F.entry_str_ascii_iterator_next ?_ (F.args_str_ascii_iterator_next_1 _))))
    refine (show wpAny _ _ (field (.ref it) 0 >>= _) _ _ s from wpAny_bind (wpAny_field ho hd (x := .str x t) rfl ?_))
    refine (show wpAny _ _ (field (.ref it) 1 >>= _) _ _ s from wpAny_bind (wpAny_field ho hd (x := .int i 0) rfl ?_))
    simp only [Int.toNat_natCast, hx]
    refine wpAny_bind (wpAny_rule (wpAny_bind (wpAny_setField ho hd (by simp) (wpAny_bind (wpAny_letGo ?_)))))
    show wpAny _ _ (newExc (.type "StopIteration") [] >>= _) _ _ _
    refine wpAny_bind ?_
    simp only [newExc, newTuple]
    refine wpAny_bind (wpAny_newObj_type ?_ (by size_fits))
    refine wpAny_bind (m := firstArgMember _ _) (wpAny_of_eq (a := Value.none) (by first | rfl | (simp only [firstArgMember]; rfl)) ?_)
    refine wpAny_newObj_type ?_ (by size_fits)
    refine raiseNew_hot ⟨hh, _, _, Heap.get?_push_of_some _ (Heap.get?_push_of_some _ h1), d1, c1⟩ (Nat.ne_of_lt (Heap.lt_size (Heap.get?_push_of_some _ h1))) (Heap.get?_push_size _ rfl) rfl (by first | (simp; done) | (simp; omega)) ?_
    refine wpAny_bind (wpAny_isInstance (T := "StopIteration") (b := true) ⟨_, Heap.get?_update_self _ (Heap.get?_push_size _ rfl) rfl, rfl⟩ isSubtype_stop ?_)
    refine wpAny_pure (hQ _ fun b o ne e => ?_)
    rw [Heap.get?_update_other _ _ (Nat.ne_of_gt (Heap.lt_size (Heap.get?_push_of_some _ ((Heap.get?_update_other _ _ (Ne.symm ne)).trans e))))]
    exact Heap.get?_push_of_some _ (Heap.get?_push_of_some _ ((Heap.get?_update_other _ _ (Ne.symm ne)).trans e))
  · rw [e] at hit
    refine wpAny_bind (wpAny_attempt (wpAny_callSpecial?_slot (name := Str.ofString "__next__") hit.typeIs F.slot_str_iterator_next (wpAny_call_entry F.slot_str_iterator_next hit.typeIs F.entry_str_iterator_next ?_ (F.args_str_iterator_next_1 _))))
    refine (show wpAny _ _ (field (.ref it) 0 >>= _) _ _ s from wpAny_bind (wpAny_field ho hd (x := .str x t) rfl ?_))
    refine (show wpAny _ _ (field (.ref it) 1 >>= _) _ _ s from wpAny_bind (wpAny_field ho hd (x := .int i 0) rfl ?_))
    simp only [Int.toNat_natCast, hx]
    refine wpAny_bind (wpAny_rule (wpAny_bind (wpAny_setField ho hd (by simp) (wpAny_bind (wpAny_letGo ?_)))))
    show wpAny _ _ (newExc (.type "StopIteration") [] >>= _) _ _ _
    refine wpAny_bind ?_
    simp only [newExc, newTuple]
    refine wpAny_bind (wpAny_newObj_type ?_ (by size_fits))
    refine wpAny_bind (m := firstArgMember _ _) (wpAny_of_eq (a := Value.none) (by first | rfl | (simp only [firstArgMember]; rfl)) ?_)
    refine wpAny_newObj_type ?_ (by size_fits)
    refine raiseNew_hot ⟨hh, _, _, Heap.get?_push_of_some _ (Heap.get?_push_of_some _ h1), d1, c1⟩ (Nat.ne_of_lt (Heap.lt_size (Heap.get?_push_of_some _ h1))) (Heap.get?_push_size _ rfl) rfl (by first | (simp; done) | (simp; omega)) ?_
    refine wpAny_bind (wpAny_isInstance (T := "StopIteration") (b := true) ⟨_, Heap.get?_update_self _ (Heap.get?_push_size _ rfl) rfl, rfl⟩ isSubtype_stop ?_)
    refine wpAny_pure (hQ _ fun b o ne e => ?_)
    rw [Heap.get?_update_other _ _ (Nat.ne_of_gt (Heap.lt_size (Heap.get?_push_of_some _ ((Heap.get?_update_other _ _ (Ne.symm ne)).trans e))))]
    exact Heap.get?_push_of_some _ (Heap.get?_push_of_some _ ((Heap.get?_update_other _ _ (Ne.symm ne)).trans e))
end
end HotE
namespace HotE
open PySem PySem.Spec PyProof.Rows L2 HotX L2H
theorem hotC_at {X : Cx} {pins : List (Addr × Obj)} {σ : L2.St} {H : Hp} {s : Shared} {it : Addr} (c : HotC X) (I : Inv X pins σ H s) (f : FpOk X pins H it) : ∃ x1, it ≠ x1 ∧ HotAt X.A x1 s.heap := by
  obtain ⟨p, ⟨hh, v1, e1, c1⟩, hp⟩ := c
  exact ⟨p.1, fun z => f.2.2.2.2.2 p (List.mem_append_left _ hp) z.symm, hh, p.2, v1, (I.pin p (List.mem_append_left _ hp)).1, e1, c1⟩
theorem turn_tupH {P : Program} {w : World} {K : PySem.W.Frag} {tg : Expr} (a it : Addr) : TurnH P w K tg (Itt K a) [it] it (fun i h => h.IsTupleIter it a i) := by
  refine ⟨by simp, fun i h st b hb => ?_, fun i h h' st k => st.at fun o e => k it (by simp) o e, ?_, ?_, fun _ _ _ _ _ st h => wpAny_pyIter_tupleiter st h⟩
  · obtain rfl : b = it := by simpa using hb
    obtain ⟨o, e, c, d⟩ := st
    exact ⟨o, e, fun v z => by rw [d] at z; cases z⟩
  · rintro X rfl rfl rfl hc i pins s σ H E I hf st ⟨xs, x, hq, hx⟩
    obtain ⟨its, rv, p, hz⟩ := I.tuple hq
    obtain ⟨u, hu, ru⟩ := rv.get hx
    have f := hf it (by simp)
    refine wpAny_pyNext_tuple_item (t := a) (items := its.toArray) st p (x := u) (by simpa using hu) fun h' st' sb => ?_
    obtain ⟨o, e, c, d⟩ := id st'
    refine ⟨u, rfl, go_of (s := { s with heap := h' }) e c d (by decide) ⟨x, H, I.turned (t' := s.toks) (fun b o hb e => (sb.2 b hb).trans e) f.1 f.2.1 f.2.2.2.1 f.2.2.2.2.1 f.2.2.2.2.2, ru, ⟨rfl, fun ys hy => ?_⟩, st', fun b hb => (hf b hb).1⟩⟩
    rw [I.tuple_inj hy hq]
    exact hx
  · rintro X rfl rfl rfl hc i pins s σ H E I hf st ⟨xs, hq, hx⟩
    obtain ⟨its, rv, p, hz⟩ := I.tuple hq
    have f := hf it (by simp)
    have hl := rv.length
    obtain ⟨x1, ne, hot⟩ := hotC_at hc I f
    exact tup_end (t := a) (its := its.toArray) hot ne st p (by simp; omega) fun h' eb => ⟨rfl, I.turned (t' := s.toks) (fun b o hb e => eb b o hb e) f.1 f.2.1 f.2.2.2.1 f.2.2.2.2.1 f.2.2.2.2.2⟩
theorem turn_strH {P : Program} {w : World} {K : PySem.W.Frag} {tg : Expr} (it : Addr) (x : Str) (t : Tok) (ty : String) (hty : ty = "str_ascii_iterator" ∨ ty = "str_iterator") : TurnH P w K tg (Its x) [it] it (fun i h => h.IsStrIter it ty x t i) := by
  refine ⟨by simp, fun i h st b hb => ?_, fun i h h' st k => let ⟨o, ho, r⟩ := st; ⟨o, k it (by simp) o ho, r⟩, ?_, ?_, fun A i s Q E st h => ?_⟩
  · obtain rfl : b = it := by simpa using hb
    obtain ⟨o, e, c, d⟩ := st
    exact ⟨o, e, fun v z => by rw [d] at z; cases z⟩
  · rintro X rfl rfl rfl hc i pins s σ H E I hf st hg
    have f := hf it (by simp)
    have hg : i < x.cps.size := hg
    have hx : x.cps[i]? = some x.cps[i] := Array.getElem?_eq_getElem hg
    have fin : ∀ h', h'.IsStrIter it ty x t (i + 1) → Heap.SameBut it s.heap h' → ∃ u, some (Value.str ⟨#[x.cps[i]]⟩ s.toks) = some u ∧ wpAny (model X.prog X.w) X.A (letOwnedTupleGo tg (.ref it) u) (fun _ s2 => ∃ v H', Inv X pins σ H' s2 ∧ RelV v u ∧ (Its x).yld i H v H' ∧ s2.heap.IsStrIter it ty x t (i + 1) ∧ ∀ b ∈ [it], H' b = none) E { s with heap := h', toks := s.toks + 1 } := fun h' st' sb => by
      obtain ⟨o, e, c, d⟩ := id st'
      refine ⟨_, rfl, go_of (s := { s with heap := h', toks := s.toks + 1 }) e c d ?_ ⟨.str ⟨#[x.cps[i]]⟩, H, I.turned (t' := s.toks + 1) (fun b o hb e => (sb.2 b hb).trans e) f.1 f.2.1 f.2.2.2.1 f.2.2.2.2.1 f.2.2.2.2.2, ⟨_, rfl⟩, ⟨rfl, _, hx, rfl⟩, st', fun b hb => (hf b hb).1⟩⟩
      rcases hty with z | z <;> rw [z] <;> decide
    rcases hty with rfl | rfl
    · exact wpAny_pyNext_ascii_item st hx fin
    · exact wpAny_pyNext_wide_item st hx fin
  · rintro X rfl rfl rfl hc i pins s σ H E I hf st hg
    have f := hf it (by simp)
    obtain ⟨x1, ne, hot⟩ := hotC_at hc I f
    exact str_end hty hot ne st (Array.getElem?_eq_none hg) fun h' eb => ⟨rfl, I.turned (t' := s.toks) (fun b o hb e => eb b o hb e) f.1 f.2.1 f.2.2.2.1 f.2.2.2.2.1 f.2.2.2.2.2⟩
  · rcases hty with z | z
    · rw [z] at st
      exact wpAny_pyIter_striter_ascii st h
    · rw [z] at st
      exact wpAny_pyIter_striter_wide st h
section
variable {X : Cx} {tg : Expr}
theorem pi_oneH {pins : List (Addr × Obj)} {σ : L2.St} {H : Hp} {s : Shared} {R : It → Hp → Prop} {J : It} {tn : Nat → Heap → Prop} {tk : Nat} (I : Inv X pins σ H s) (o : Obj) (T : TurnH X.prog X.w X.K tg J [s.heap.objs.size] s.heap.objs.size tn) (st : tn 0 (s.heap.push o)) (q : R J H) :
    PIEH X pins σ tg R (.ref s.heap.objs.size) { s with heap := s.heap.push o, toks := tk } := by
  refine ⟨_, [s.heap.objs.size], tn, J, H, rfl, I.kept fun b ob e => Heap.get?_push_of_some _ e, T, st, fun b hb => ?_, q⟩
  obtain rfl : b = s.heap.objs.size := by simpa using hb
  exact I.fpOk (Nat.le_refl _) (I.hok.fresh (Nat.le_refl _))
theorem pi_strH {e : Expr} {te : TE} (he : PE X e te) : PIH X tg e (iStr te) := by
  refine ⟨fun pins s σ H R I h => thn (he.run pins s σ H _ I h) fun v s1 ⟨y, H1, I1, r1, x, ex, q⟩ => ?_⟩
  subst ex
  obtain ⟨t, rfl⟩ := r1
  cases ha : x.cps.all (· < 128) with
  | false => exact wpAny_pyIter_wide ha (pi_oneH (tk := s1.toks) I1 _ (turn_strH _ x t "str_iterator" (.inr rfl)) ⟨_, Heap.get?_push_size _ rfl, rfl, rfl⟩ q)
  | true => exact wpAny_pyIter_ascii ha (pi_oneH (tk := s1.toks) I1 _ (turn_strH _ x t "str_ascii_iterator" (.inl rfl)) ⟨_, Heap.get?_push_size _ rfl, rfl, rfl⟩ q)
theorem pi_tupH {l : Expr} {tl : TE} (hl : PE X l tl) : PIH X tg l (iTup X.K tl) := by
  refine ⟨fun pins s σ H R I h => thn (hl.run pins s σ H _ I h) fun v s1 ⟨x, H1, I1, r1, a, e, ⟨xs, hq⟩, q⟩ => ?_⟩
  subst e
  cases r1
  obtain ⟨its, rv, p, hz⟩ := I1.tuple hq
  exact wpAny_pyIter_tuple (t := a) (items := its.toArray) p (pi_oneH (tk := s1.toks) I1 _ (turn_tupH a _) ⟨_, Heap.get?_push_size _ rfl, rfl, rfl⟩ q)
end
/-! ### a def of the text, called where an exception is handled -/
theorem passH {X : Cx} (σ : L2.St) : PassesAt CX0 X σ E0 := fun _ _ _ _ _ _ h => h.elim
section
variable {P : Program} {w : World} {K : PySem.W.Frag} {mg : Str → Option Value} {base : Heap}
theorem okH {x qual : Str} {st : Stmt} {f : Addr} {fd : FuncData} {N ps : List Str} {k : Nat} {sp : Sp} (F : Fun K x qual st f fd) (S : FnScope N ps (defScope st)) (len : ∀ vs H Q E, sp vs H Q E → vs.length = ps.length)
    (hb : ∀ (cdv : Value) (A : Around) (outer : List Env) (s : Shared) (H : Hp) (vs : List V) (Q : VK) (E : XK) (p : Addr × Obj), HotC (cxH CX0 P w K mg base N qual (defScope st) f cdv A outer s H E p).nox → RoomH k (A.deeper (envOfC qual (defScope st) s.heap.objs.size f cdv)) → sp vs H Q E →
      ∃ t, PSs (cxH CX0 P w K mg base N qual (defScope st) f cdv A outer s H E p).nox (defBody st) t ∧ t { nx := fun _ H' => Q .non H', rt := Q } (start N vs) H) : FnH P w K mg base CX0 (k + 1) f fd ps sp := by
  obtain ⟨oc, od, kV, doc, pm, an, cdv, ct, osl, rfl, lk, hcd⟩ := F.ex
  refine fn_ofH lk hcd S len fun A outer s H vs Q E p hot hr hsp => ?_
  obtain ⟨t, h, q⟩ := hb cdv A outer s H vs Q E p ⟨p, hot, List.mem_singleton_self p⟩ hr hsp
  exact ⟨t, h.nox, q⟩
end
end HotE
namespace HotE
open PySem PySem.Spec PyProof.Rows L2 HotX L2H
/-- around a body nothing is let out (contexts told) -/
theorem takesN {X : Cx} : L2N.Takes X (fun _ _ _ _ => False) := fun _ _ x => by
  obtain ⟨_, _, _, _, _, _, _, _, _, _, _, _, _, _, _, _, z⟩ := x
  exact z.elim
theorem passN {X : Cx} : Passes (L2N.CX X.prog X.w) X E0 := fun _ _ _ _ _ _ _ h => by
  obtain ⟨_, _, _, _, _, _, _, _, _, _, _, _, z⟩ := h
  exact z.elim
section
variable {P : Program} {w : World} {K : PySem.W.Frag} {mg : Str → Option Value} {base : Heap}
theorem okN {x qual : Str} {st : Stmt} {f : Addr} {fd : FuncData} {N ps : List Str} {k : Nat} {sp : Sp} (F : Fun K x qual st f fd) (S : FnScope N ps (defScope st)) (len : ∀ vs H Q E, sp vs H Q E → vs.length = ps.length)
    (hb : ∀ (cdv : Value) (A : Around) (outer : List Env) (s : Shared) (H : Hp) (vs : List V) (Q : VK) (E : XK), Room k (A.deeper (envOfC qual (defScope st) s.heap.objs.size f cdv)) → sp vs H Q E →
      ∃ t, PSs (cxOf (L2N.CX P w) P w K mg base N qual (defScope st) f cdv A outer s H E) (defBody st) t ∧ t { nx := fun _ H' => Q .non H', rt := Q } (start N vs) H) : FnOk P w K mg base (L2N.CX P w) (k + 1) f fd ps sp := by
  obtain ⟨oc, od, kV, doc, pm, an, cdv, ct, osl, rfl, lk, hcd⟩ := F.ex
  exact fn_of lk hcd S len fun A outer s H vs Q E hr hsp => hb cdv A outer s H vs Q E hr hsp
end
theorem hotS {X : Cx} {a : Addr} {oe : Obj} {cls : Value} {d : Option Addr} {pn : List (Addr × Obj)} (hz : L2N.Zn cls d oe) (hf : ∃ vs, oe.data = .fields vs) : HotC (X.suite a ((a, oe) :: pn)) := by
  obtain ⟨vs, e⟩ := hf
  exact ⟨(a, oe), ⟨rfl, vs, e, hz.2.2 vs e⟩, List.mem_cons_self⟩
theorem roomS {X : Cx} {a : Addr} {pn : List (Addr × Obj)} {k : Nat} (r : Room k X.A) : RoomH k (X.suite a pn).A := ⟨r.dp, r.un⟩
/-- o.m() while an exception is handled -/
theorem pe_meth0H {X : Cx} {CX : CXT} {k : Nat} {f C : Addr} {fd : FuncData} {ps : List Str} {sp : Sp} {E : L2.St → XK} {m : Str} {pos apos : Pos} {o : Expr} {ta : TE} {pl : Sem Bool} (he : PE X o ta) (c : Cls X.K C) (hm : Meth X.K C m f) (F : FnH X.prog X.w X.K X.mg X.base CX k f fd ps sp) (hr : RoomH k X.A) (hc : HotC X) (hb : Binds X.K fd ps [])
    (hx : ∀ σ, PassesAt CX X σ (E σ))
    (ht : eval (.Call (.Attribute o m apos) [] [] pos) X.env = (do
      let ov ← eval o X.env
      standAt apos.atName
      let (f, first) ← holding [ov] (getMethod ov m pl)
      callWith pos f first (backTo pos (starEach [] X.env)) (backToKw pos (keywordEach [] X.env))) := by rfl) : PE X (.Call (.Attribute o m apos) [] [] pos) (tMethH C m sp E ta tNil) := by
  refine ⟨fun pins s σ H Q I h => PySem.W.methodCall_KW (pl := pl) (thn (he.run pins s σ H _ I h) fun u s1 ⟨x, H1, I1, rx, a, dx, fs, ex, ea, l, q⟩ => ?_) ht⟩
  subst ex
  obtain rfl : u = Value.ref a := rx
  exact getmeth_ok I1 ea c hm l (PySem.W.callWith_K0 (first := [.ref a]) I1.kIn hm.kp (run_fnH (us := [.ref a]) (vs := [.ref a]) F hr hc hb (hx σ) I1 (.cons rfl .nil) q))
end HotE
/-! # a comprehension whose element may raise -/
namespace LcX
open PySem PySem.Spec PyProof.Rows L2
/-- the exception is noted, the block is let go, the exception goes on in the def's own frame -/
theorem fails {M : Model} {A : Around} {E : Value → Shared → Prop} {s : Shared} {B : Heap} {Z : Obj → Prop} {env ce : Env} {outer : List Env} {a L : Addr} {m : Str → Option Value} (hZ : PXN.Steady1 Z) (hfr : A.frames = some (env :: outer)) (hc : ce.frame = env.frame) (hf : env.frame = some L)
    (nC : B.get? ce.locals = none) (hn : s.heap.Ns ce.locals m) (fl : HandSPX.FlyingZ B (env :: outer) a Z s.heap)
    (q : ∀ h', HandSPX.HeldZ B (env :: outer) a Z L h' → (∀ b o, s.heap.get? b = some o → b ≠ ce.locals → (∀ vs, o.data ≠ .fields vs) → ∃ sl, h'.get? b = some { o with slots := sl }) → E (.ref a) { s with heap := h' }) :
    notedBy M A ce (CompFails M A E ce) (.ref a) s := by
  show wpAny M A (noteFrame (.ref a) ce) _ _ s
  rw [noteFrame_env _ hc]
  refine PXN.looks_onZ hZ hfr hf fl fun h1 H1 k1 => ⟨m, hn.upToSlots k1, fun h2 m2 n2 b2 => ?_⟩
  obtain ⟨c1, c2, c3, oe, vs, T, oT, ts, e1, e2, e3, e4, e5, e6, e7, e8, e9⟩ := H1
  have ne : ∀ (b : Addr) (o : Obj) (ws : Array Value), h1.get? b = some o → o.data = .fields ws → b ≠ ce.locals := fun b o ws g d z => by
    obtain ⟨oc, es, ep, gc, dc, _⟩ := hn.upToSlots k1
    rw [z, gc] at g
    cases g
    rw [dc] at d
    cases d
  have H2 : HandSPX.HeldZ B (env :: outer) a Z L h2 :=
    ⟨fun b o g => (b2.2 b fun z => by rw [z, nC] at g; cases g).trans (c1 b o g), c2, Heap.FunFrames.sameBut b2 n2 c3, oe, vs, T, oT, ts, (b2.2 a (ne a oe vs e1 e3)).trans e1, e2, e3, e4, e5, e6, (b2.2 T (ne T oT ts e7 e8)).trans e7, e8, e9⟩
  unfold PySem.passOn
  refine wpAny_bind (wpAny_field ((b2.2 a (ne a oe vs e1 e3)).trans e1) e3 e4 ?_)
  rw [if_neg (show ¬ ((Value.ref T == Value.none) = true) from by simp), hc, hf]
  have fin : wpAny M A (setFlight (.ref a) (some L)) (fun _ s4 => wpAny M A (throw (.ref a) : Sem Value) (fun _ _ => False) E s4) E { s with heap := h2 } := by
    refine HandSPX.setFlight_onZ H2 fun h3 H3 k3 => wpAny_throw (q h3 H3 fun b o g nb nf => ?_)
    obtain ⟨sl, g1⟩ := k1 b o g nf
    obtain ⟨sl3, g3⟩ := k3 b _ ((b2.2 b nb).trans g1) nf
    exact ⟨sl3, g3⟩
  first
  | exact wpAny_bind (wpAny_pure (wpAny_bind fin))
  | exact wpAny_bind fin
section
variable {X : Cx}
/-- a block's context, and what is wished of an exception in it -/
abbrev bx (X : Cx) (s : Shared) (H : Hp) (scope : Scope) (ce : Env) (fp : List Addr) (xe : Value → Shared → Prop) : Cx := { X.blk s H scope ce fp with xe := xe }
theorem toBx {pins : List (Addr × Obj)} {σ : L2.St} {H H0 : Hp} {s s0 : Shared} {scope : Scope} {ce : Env} {fp : List Addr} (xe : Value → Shared → Prop) (I : Inv (X.blk s0 H0 scope ce fp) pins σ H s) : Inv (bx X s0 H0 scope ce fp xe) pins σ H s :=
  ⟨I.ok.toTry [] xe, I.os, I.bare, I.base, I.loc, I.cell, I.free, I.freeC, I.pin, I.hok, I.len⟩
/-- what a call in the element let out is taken behind the block -/
theorem taken {pins pins' : List (Addr × Obj)} {σ σ' : L2.St} {H0 H : Hp} {s0 s s' : Shared} {scope : Scope} {ce : Env} {fp : List Addr} {xe : Value → Shared → Prop} {W : WX} {EK : XK} {u : Value} (I0 : Inv X pins σ H0 s0) (f0 : ∀ b ∈ fp, FpOk X pins H0 b) (tk : L2N.Takes X W)
    (hs : X.stack = X.env :: X.outer) (hf : X.env.frame = some X.env.locals) (hcf : ce.frame = X.env.frame) (hC : ce.locals = s0.heap.objs.size) (hW : ∀ cls d H', EK cls d H' → W cls d σ H') (I : Inv (bx X s0 H0 scope ce fp xe) pins' σ' H s)
    (c : L2N.CX X.prog X.w X.stack H s EK u s') : notedBy (model X.prog X.w) X.A ce (CompFails (model X.prog X.w) X.A X.xe ce) u s' := by
  obtain ⟨a, B, H', cls, d, rfl, fl, hok, ub, na, os, ag, hE⟩ := c
  have u1 : Un (frs X.stack) fp H0 H s0.heap s.heap := I.base
  obtain ⟨m, hn, _⟩ := I.loc
  have hn : s.heap.Ns ce.locals m := hn
  obtain ⟨oC, es, ep, gC, dC, r⟩ := id hn
  have nCH : H ce.locals = none := I.free
  have nCH' : H' ce.locals = none := ub.free _ _ gC nCH
  have frlt : ∀ b ∈ frs X.stack, b ≠ ce.locals := fun b hb z => by
    have h1 := I0.stkSub b hb
    obtain ⟨e, o, g, _⟩ := I0.stack.mem hb
    have := Heap.lt_size g
    rw [z, hC] at this
    exact Nat.lt_irrefl _ this
  -- the ground without the block
  obtain ⟨B2, p1, p2⟩ := restrict B fun b => !decide (b = ce.locals)
  have B2C : B2.get? ce.locals = none := p2 _ (by simp)
  have BB : ∀ b, b ≠ ce.locals → B2.get? b = B.get? b := fun b nb => p1 b (by simp [nb])
  have B2B : ∀ b o, B2.get? b = some o → B.get? b = some o := fun b o g => by
    by_cases nb : b = ce.locals
    · rw [nb, B2C] at g; cases g
    · rwa [BB b nb] at g
  have B2n : ∀ b, B.get? b = none → B2.get? b = none := fun b g => by
    by_cases nb : b = ce.locals
    · rw [nb]; exact B2C
    · rw [BB b nb]; exact g
  obtain ⟨st, nb, ff, oe, vs, T, oT, ts, t1, t2, t3, t4, t5, t6⟩ := fl
  have fl2 : HandSPX.FlyingZ B2 X.stack a (L2N.Zn cls d) s'.heap := ⟨fun b o g => st b o (B2B b o g), B2n _ nb, funFrames_none ff fun b hb => B2n b (ff.mem hb).1, oe, vs, T, oT, ts, t1, t2, t3, t4, B2n _ t5, t6⟩
  have hok2 : HOk X.prog X.w H' B2 := fun b o e => (hok b o e).stay (fun x v hx g => by
    rw [BB x]
    · exact g
    · rintro rfl
      rcases hx with z | z
      · rw [z, e] at nCH'; cases nCH'
      · rw [nCH'] at z; cases z) (fun _ q => q) fun _ _ q => q
  -- the state that stands behind it
  obtain ⟨G, g1, g2⟩ := restrict s'.heap fun b => (B2.get? b).isSome || decide (b ∈ frs X.stack)
  have gB : ∀ b o, B2.get? b = some o → G.get? b = some o := fun b o e => by
    rw [g1 b (by simp [e])]
    exact fl2.1 b o e
  have gF : ∀ b, b ∈ frs X.stack → G.get? b = s'.heap.get? b := fun b hb => g1 b (by simp [hb])
  have og : ∀ b o, G.get? b = some o → s'.heap.get? b = some o ∧ ((B2.get? b).isSome = true ∨ b ∈ frs X.stack) := fun b o e => by
    cases q : ((B2.get? b).isSome || decide (b ∈ frs X.stack)) with
    | false => rw [g2 b q] at e; cases e
    | true => rw [g1 b q] at e; exact ⟨e, by simpa [Bool.or_eq_true] using q⟩
  have old : ∀ b o, s0.heap.get? b = some o → b ≠ ce.locals := fun b o g z => by
    have := Heap.lt_size g
    rw [z, hC] at this
    exact Nat.lt_irrefl _ this
  have J : Inv X pins σ H' { s0 with heap := G, gens := s'.gens, drawn := s'.drawn, toks := s'.toks } := by
    refine I0.call (ch := fp) ⟨fun b o e n hb hx => ?_, fun b o e n hb hx => ?_, fun b o e n hx => ?_, fun b o e hx => ?_, fun b xs e => ub.tups b xs (u1.tups b xs e), fun b o x e => ub.frzs b o x (u1.frzs b o x e), fun b ps e => ?_⟩ (hok2.kept gB) ag fun b hb => ⟨(f0 b hb).2.2.2.1, (f0 b hb).2.1, (f0 b hb).2.2.2.2.1, (f0 b hb).2.2.2.2.2⟩
    · exact gB b o ((BB b (old b o e)).trans (ub.keep b o (u1.keep b o e n hb hx) (u1.free b o e n hx) hb))
    · obtain ⟨sl, e1⟩ := u1.slot b o e n hb hx
      obtain ⟨sl2, e2⟩ := ub.slot b _ e1 hb
      exact ⟨sl2, by rw [gF b hb]; exact e2⟩
    · obtain ⟨o', e1⟩ := u1.there b o e hx
      exact ub.free b o' e1 (u1.free b o e n hx)
    · obtain ⟨o1, e1⟩ := u1.there b o e hx
      by_cases hb : b ∈ frs X.stack
      · obtain ⟨sl, e2⟩ := ub.slot b _ e1 hb
        exact ⟨_, by rw [gF b hb]; exact e2⟩
      · obtain ⟨o2, e2⟩ := ub.there b o1 e1 hb
        exact ⟨o2, gB b o2 ((BB b (old b o e)).trans e2)⟩
    · obtain ⟨m1, e1⟩ := u1.tbls b ps e
      obtain ⟨m2, e2⟩ := ub.tbls b _ e1
      exact ⟨m1 ++ m2, by rw [e2, Array.append_assoc]⟩
  have hfr : X.A.frames = some (X.env :: X.outer) := by rw [I0.ok.frames, hs]
  obtain ⟨oc', gc'⟩ : ∃ o', s'.heap.get? ce.locals = some o' ∧ o' = oC := by
    refine ⟨oC, st _ _ (ub.keep _ _ gC nCH fun hb => frlt _ hb rfl), rfl⟩
  have hn' : s'.heap.Ns ce.locals m := by
    obtain ⟨w1, w2⟩ := gc'
    rw [w2] at w1
    exact ⟨oC, es, ep, w1, dC, r⟩
  refine fails (L := X.env.locals) L2N.Zn.steady hfr hcf hf B2C hn' (hs ▸ fl2) fun h' hh k => tk _ _ ?_
  refine ⟨a, B2, _, pins, σ, H', cls, d, rfl, J, fun b o e hb => ?_, fun b o e nf => ?_, .inr (.inr (by rw [hs]; exact hh)), na, os.trans I.os, ag, hW _ _ _ hE⟩
  · obtain ⟨e', h⟩ := og b o e
    rcases h with h | h
    · obtain ⟨o', q⟩ := Option.isSome_iff_exists.mp h
      have z := fl2.1 b o' q
      rw [e'] at z; cases z
      exact q
    · exact absurd h hb
  · obtain ⟨e', h⟩ := og b o e
    refine k b o e' (fun z => ?_) nf
    rcases h with h | h
    · rw [z, B2C] at h; cases h
    · exact frlt b h z
/-- [elt for target in iter if ..], the element may raise: te takes what is wished of its exception -/
def tLcX (W : WX) (wi : TI) (g : TG) (tt : TT) (te : XK → TE) (vs : List Nat) : TE := fun σ H Q => tLc wi g tt (te fun cls d H' => W cls d σ H') vs σ H Q
/-- an element in its block: whatever is wished of an exception there, a callee's is taken -/
abbrev Elt (X : Cx) (scope : Scope) (elt : Expr) (te : XK → TE) : Prop := ∀ (s : Shared) (H : Hp) (C : Addr) (cl : List (Str × Addr)) (fp : List Addr) (xe : Value → Shared → Prop) (EK : XK),
  (∀ σ, PassesAt (L2N.CX X.prog X.w) (bx X s H scope (compEnvC scope cl C X.env) fp xe) σ EK) → PE (bx X s H scope (compEnvC scope cl C X.env) fp xe) elt (te EK)
theorem core {pins : List (Addr × Obj)} {s : Shared} {σ : L2.St} {H : Hp} {Q : VK} {elt tg iter : Expr} {ifs : List Expr} {scope : Scope} {own : List (Str × Nat)} {pos pos' : Pos} {wi : TI} {g : TG} {tt : TT} {te : XK → TE} {use : Option (Value → Sem Unit)} {Qf : Value → Shared → Prop} {W : WX}
    (hc : X.calm = true) (hN : X.N.Nodup) (hs : X.stack = X.env :: X.outer) (hf : X.env.frame = some X.env.locals) (tk : L2N.Takes X W) (I : Inv X pins σ H s) (hi : PI X tg iter wi) (ok : BlkOk X.N X.env.scope scope own)
    (hg : ∀ (s : Shared) (H : Hp) (C : Addr) (cl : List (Str × Addr)) (fp : List Addr) (xe : Value → Shared → Prop), PG (bx X s H scope (compEnvC scope cl C X.env) fp xe) tg g)
    (ht : ∀ (s : Shared) (H : Hp) (C : Addr) (cl : List (Str × Addr)) (fp : List Addr) (xe : Value → Shared → Prop), PTs (bx X s H scope (compEnvC scope cl C X.env) fp xe) ifs tt) (he : Elt X scope elt te) (hfs : ∀ x, foldedSetIterable iter X.env x = pure x)
    (h : tLcX W wi g tt te (own.map (·.2)) σ H Q)
    (hR : ∀ D ce s' m H', Inv X pins σ H' s' → Q (.ref D) H' → s'.heap.Ns ce.locals m → FpOk X pins H' ce.locals → compEnds (model X.prog X.w) X.A X.xe use Qf (.ref D) ce (.ok .next) s') :
    wpAny (model X.prog X.w) X.A (comprehension (.ListComp elt [⟨tg, iter, ifs, 0⟩] scope pos) scope X.env pos' (newList []) false (eval iter X.env) use) Qf X.xe s := by
  have hfree : ∀ y ∈ scope.names, y.2 = .free → ∃ c, X.env.cells.lookup y.1 = some c := fun y hy e => (ok.free y hy e).elim (fun k => I.ok.has _ (.inl k)) fun k => I.ok.has _ (.inr k)
  refine comprehension_at (use := use) rfl hfs (closure_ok hfree) ok.kind (fun y hy e => by rw [ok.uniq y hy, e]) (thn (hi.run pins s σ H _ I h) fun xv s1 hx => thn hx fun itv s2 h2 => ?_)
  obtain ⟨it, fp, tn, J, H2, rfl, I2, T, st2, f2, q⟩ := h2
  refine wpAny_newObj_type (newEnv_comp ?_) (by show 0 ≤ sizeLine; decide)
  generalize hD : s2.heap.objs.size = D
  obtain ⟨V, ⟨m0, w0⟩, turn⟩ := q D (I2.hok.fresh (Nat.le_of_eq hD))
  generalize hs3 : ({ s2 with heap := s2.heap.push { cls := .type "list", data := .seq ([] : List Value).toArray } } : Shared) = s3
  have h3 : s3.heap = s2.heap.push { cls := .type "list", data := .seq ([] : List Value).toArray } := by rw [← hs3]
  have I3 : Inv X pins σ (upd H2 D (.lst [])) s3 := by
    rw [← hs3]
    exact I2.laid (t' := s2.toks) (fun b o e => Heap.get?_push_of_some _ e) (Nat.le_of_eq hD) ⟨Nat.zero_le _, [], 0, .nil, by rw [← hD]; exact Heap.get?_push_size _ rfl⟩
  have f3 : ∀ b ∈ fp, FpOk X pins (upd H2 D (.lst [])) b ∧ b < s3.heap.objs.size := fun b hb => by
    obtain ⟨o, e, _⟩ := T.obj _ _ st2 b hb
    have lt := Heap.lt_size e
    exact ⟨⟨by rw [upd_ne (by rw [← hD]; exact Nat.ne_of_lt lt)]; exact (f2 b hb).1, (f2 b hb).2⟩, by rw [h3, Heap.size_push]; exact Nat.lt_succ_of_lt lt⟩
  have st3 : tn 0 s3.heap := T.keep _ _ _ st2 fun b _ o e => by rw [h3]; exact Heap.get?_push_of_some _ e
  have I4 := block_start I3 ok hN f3
  show codeAny _ _ (.compStart (.ListComp elt [⟨tg, iter, ifs, 0⟩] scope pos) 0 (.ref it) (.ref D) (compEnvC scope (cellsFrom (s3.heap.objs.size + 1) scope.names (cloFrom X.env.cells scope.names [])) s3.heap.objs.size X.env)) (compEnds (model X.prog X.w) X.A X.xe use Qf (.ref D) (compEnvC scope (cellsFrom (s3.heap.objs.size + 1) scope.names (cloFrom X.env.cells scope.names [])) s3.heap.objs.size X.env)) { s3 with heap := pushCells (s3.heap.push { cls := .type "dict", data := .dict #[] }) scope.names }
  have pg := hg s3 (upd H2 D (.lst [])) s3.heap.objs.size (cellsFrom (s3.heap.objs.size + 1) scope.names (cloFrom X.env.cells scope.names [])) fp
  have pt := ht s3 (upd H2 D (.lst [])) s3.heap.objs.size (cellsFrom (s3.heap.objs.size + 1) scope.names (cloFrom X.env.cells scope.names [])) fp
  have pe := he s3 (upd H2 D (.lst [])) s3.heap.objs.size (cellsFrom (s3.heap.objs.size + 1) scope.names (cloFrom X.env.cells scope.names [])) fp
  have nfp : ∀ b ∈ fp, (upd H2 D (.lst [])) b = none := fun b hb => (f3 b hb).1.1
  generalize hce : compEnvC scope (cellsFrom (s3.heap.objs.size + 1) scope.names (cloFrom X.env.cells scope.names [])) s3.heap.objs.size X.env = ce at I4 pg pt pe ⊢
  have cL : ce.locals = s3.heap.objs.size := by subst hce; rfl
  have cF : ce.frame = X.env.frame := by subst hce; rfl
  generalize hH3 : upd H2 D (.lst []) = H3 at I3 I4 pg pt pe w0 nfp f3
  generalize hs4 : ({ s3 with heap := pushCells (s3.heap.push { cls := .type "dict", data := .dict #[] }) scope.names } : Shared) = s4 at I4 ⊢
  have st4 : tn 0 s4.heap := T.keep _ _ _ st3 fun b _ o e => by rw [← hs4]; exact pushCells_keeps _ _ _ _ (Heap.get?_push_of_some _ e)
  obtain ⟨xe, hxe⟩ : ∃ xe : Value → Shared → Prop, xe = notedBy (model X.prog X.w) X.A ce (CompFails (model X.prog X.w) X.A X.xe ce) := ⟨_, rfl⟩
  have I5 := toBx xe I4
  have px : ∀ σ', PassesAt (L2N.CX X.prog X.w) (bx X s3 H3 scope ce fp xe) σ' (fun cls d H' => W cls d σ H') := fun σ' pins' H' s' u s'' J c => by
    show xe u s''
    rw [hxe]
    exact taken I3 (fun b hb => (f3 b hb).1) tk hs hf cF cL (fun _ _ _ z => z) J c
  have pg := pg xe
  have pt := pt xe
  have pe := pe xe _ px
  have stat : ∀ {σ' : L2.St} {H' : Hp} {s' : Shared}, Inv (bx X s3 H3 scope ce fp xe) [] σ' H' s' → (∀ b ∈ fp, H' b = none) → ∀ b ∈ fp, FpOk (bx X s3 H3 scope ce fp xe) [] H' b := fun {σ' H' s'} I' hn b hb =>
    ⟨hn b hb, (I'.ok.exf b hb).1, I'.ok.exfs b hb, .inl hb, fun x c e => (I'.ok.exf b hb).2 x c e, fun p hp => absurd (show p ∈ ([] : List (Addr × Obj)) ++ [] from hp) (by simp)⟩
  have noted : ∀ {α : Type} {t : Sem α} {R R' : α → Shared → Prop} {s' : Shared}, wpAny (model X.prog X.w) X.A t R xe s' → (∀ v s', R v s' → R' v s') → wpAny (model X.prog X.w) X.A t R' (notedBy (model X.prog X.w) X.A ce fun e s' => compEnds (model X.prog X.w) X.A X.xe use Qf (.ref D) ce (.error e) s') s' := fun {α t R R' s'} hh hq =>
    wpAny_mono hh hq fun e s'' z => by
      rw [hxe] at z
      cases use <;> exact z
  have loop : codeAny (model X.prog X.w) X.A (.compLoop (.ListComp elt [⟨tg, iter, ifs, 0⟩] scope pos) 0 (.ref it) (.ref D) ce) (compEnds (model X.prog X.w) X.A X.xe use Qf (.ref D) ce) s4 := by
    refine compLoop_any (fun n s' => ∃ i H', Inv (bx X s3 H3 scope ce fp xe) [] (wipe σ (own.map (·.2))) H' s' ∧ tn i s'.heap ∧ (∀ b ∈ fp, H' b = none) ∧ V i n H') ?_ m0 ⟨0, H3, I5, st4, nfp, w0⟩
    rintro n s5 ⟨i, H5, J5, st5, n5, w5⟩
    rcases turn i n H5 w5 with ⟨stop, qq⟩ | ⟨go, Nx, hNx, step⟩
    · refine noted (T.done (bx X s3 H3 scope ce fp xe) rfl rfl rfl hc i [] s5 _ H5 xe J5 (stat J5 n5) st5 stop) fun r s6 ⟨hr, J6⟩ => ?_
      subst hr
      have I7 : Inv X pins σ H5 s6 := I3.call' (ch := fp) J6.os J6.base J6.hok J6.bare fun b hb => ⟨(f3 b hb).1.2.2.2.1, (f3 b hb).1.2.1, (f3 b hb).1.2.2.2.2.1, (f3 b hb).1.2.2.2.2.2⟩
      have nC : H5 ce.locals = none := J6.free
      obtain ⟨m, hn, _⟩ := J6.loc
      exact hR D ce s6 m H5 I7 qq hn (I3.fpOk (Nat.le_of_eq cL.symm) nC)
    · refine noted (T.item (bx X s3 H3 scope ce fp xe) rfl rfl rfl hc i [] s5 _ H5 xe J5 (stat J5 n5) st5 go) fun r s6 ⟨u, hr, h6⟩ => ?_
      subst hr
      refine noted h6 fun _ s7 ⟨x, H7, J7, r7, y7, st7, n7⟩ => ?_
      refine noted (pg.run _ s7 _ H7 x u _ (J7.pinned (stat J7 n7) (T.obj _ _ st7)) r7 (step x H7 y7)) fun _ s8 ⟨σ8, H8, J8, hw8, q8⟩ => ?_
      refine noted (pt.run _ s8 σ8 H8 _ J8 q8) fun b s9 ⟨H9, J9, q9⟩ => ?_
      have fin : ∀ {s' : Shared} {H' : Hp}, Inv (bx X s3 H3 scope ce fp xe) ([] ++ pinsAt fp s7.heap) σ8 H' s' → Nx H' → ∃ m, m < n ∧ ∃ i H', Inv (bx X s3 H3 scope ce fp xe) [] (wipe σ (own.map (·.2))) H' s' ∧ tn i s'.heap ∧ (∀ b ∈ fp, H' b = none) ∧ V i m H' := fun {s' H'} I' nx => by
        obtain ⟨m', hm, w'⟩ := hNx H' nx
        have pin' : ∀ b ∈ fp, ∀ o, s7.heap.get? b = some o → s'.heap.get? b = some o ∧ H' b = none := fun b hb o e =>
          let z := I'.pin (b, o) (List.mem_append_right _ (List.mem_append_right _ (mem_pinsAt hb e)))
          ⟨z.1, z.2.1⟩
        refine ⟨m', hm, i + 1, H', (I'.unpinned (pins := [])).weak (by rw [← hw8, wipe_length]) (fun j v e => (wipe_some (hw8 ▸ e)).1), T.keep _ _ _ st7 fun b hb o e => (pin' b hb o e).1, fun b hb => ?_, w'⟩
        obtain ⟨o, e, _⟩ := T.obj _ _ st7 b hb
        exact (pin' b hb o e).2
      cases b with
      | false =>
        simp only [Bool.false_eq_true, if_false] at q9 ⊢
        exact fin J9 q9
      | true =>
        simp only [if_true] at q9 ⊢
        refine noted (pe.run _ s9 σ8 H9 _ J9 q9) fun z s10 ⟨yv, H10, J10, r10, acc, hD10, hz10, nx⟩ => ?_
        exact app_ok (X := bx X s3 H3 scope ce fp xe) J10 hD10 hz10 r10 fun s11 J11 => fin J11 nx
  exact codeAny_compStart_list loop (T.self X.A 0 _ _ _ st4 loop)
/-- name = [..] on one line, the name a local -/
theorem ps_setLcX {i : Nat} {y : Str} {py : Pos} {elt tg iter : Expr} {ifs : List Expr} {scope : Scope} {own : List (Str × Nat)} {pos spos : Pos} {wi : TI} {g : TG} {tt : TT} {te : XK → TE} {W : WX} (hc : X.calm = true) (hN : X.N.Nodup) (hy : X.N[i]? = some y) (hyl : X.env.scope.names.lookup y = some .local)
    (hsw : swapsWith (.ListComp elt [⟨tg, iter, ifs, 0⟩] scope pos) (some (.Name y py)) spos.line X.env = pure true) (hs : X.stack = X.env :: X.outer) (hf : X.env.frame = some X.env.locals) (tk : L2N.Takes X W) (hi : PI X tg iter wi) (ok : BlkOk X.N X.env.scope scope own)
    (hg : ∀ (s : Shared) (H : Hp) (C : Addr) (cl : List (Str × Addr)) (fp : List Addr) (xe : Value → Shared → Prop), PG (bx X s H scope (compEnvC scope cl C X.env) fp xe) tg g)
    (ht : ∀ (s : Shared) (H : Hp) (C : Addr) (cl : List (Str × Addr)) (fp : List Addr) (xe : Value → Shared → Prop), PTs (bx X s H scope (compEnvC scope cl C X.env) fp xe) ifs tt) (he : Elt X scope elt te) (hfs : ∀ x, foldedSetIterable iter X.env x = pure x := by intro _; rfl) :
    PS X (.Assign [.Name y py] (.ListComp elt [⟨tg, iter, ifs, 0⟩] scope pos) spos) (tAsg (tLcX W wi g tt te (own.map (·.2))) (gName i)) := by
  refine ⟨fun pins s σ H D I h => ?_⟩
  rw [exec_Assign_Name_used _ _ _ _ hsw]
  refine wpAny_bind (wpAny_standAt (wpAny_bind ?_))
  show wpAny _ X.A (do let _ ← comprehension (.ListComp elt [⟨tg, iter, ifs, 0⟩] scope pos) scope X.env (firstIterPos [⟨tg, iter, ifs, 0⟩] pos) (newList []) false (eval iter X.env) (some (assign (.Name y py) X.env))) _ _ s
  have h : tLcX W wi g tt te (own.map (·.2)) σ H (fun x H1 => gName i x σ H1 D.nx) := h
  refine wpAny_bind (thn (core (Qf := fun _ s' => SP X pins D .next s') hc hN hs hf tk I hi ok hg ht he hfs h fun L ce s' m H' I' q hn f => ?_) fun _ s' hq => wpAny_pure (wpAny_pure hq))
  show wpAny _ _ (assign (.Name y py) X.env (.ref L)) _ _ _
  refine wpAny_assign_Name (store_ok2 (v := V.ref L) I' hN hy (.inl hyl) rfl (fun s2 I2 ⟨a, sb, ha⟩ => ?_) (.inr hyl))
  have haC : ce.locals ≠ a := ha.elim (fun z => by rw [z]; exact f.2.1) fun z e => f.2.2.2.2.1 y a z e.symm
  exact ⟨m, hn.sameBut sb haC, fun h3 sb3 => ⟨_, H', I2.turned (t' := s2.toks) (fun b o hb e => (sb3.2 b hb).trans e) f.1 f.2.1 f.2.2.2.1 f.2.2.2.2.1 f.2.2.2.2.2, q⟩⟩
end
end LcX
namespace My
open PySem PySem.Spec PyProof.Rows L2
/-! # things: values, and lists and dicts, which are none -/
mutual
inductive Dx (K : PySem.W.Frag) (H : Hp) : V → PyData → Prop
  | non : Dx K H .non .none
  | bl (b : Bool) : Dx K H (.bl b) (.bool b)
  | int (i : Int) : Dx K H (.int i) (.int i)
  | str (x : Str) : Dx K H (.str x) (.str x)
  | lst {a : Addr} {xs : List V} : H a = some (.lst xs) → Dx K H (.ref a) (.list [])
  | dic {a : Addr} {kvs : List (Key × V)} : H a = some (.dK kvs) → Dx K H (.ref a) (.list [])
  | tup {a : Addr} {xs : List V} {ds : List PyData} : SqT K H a xs → DxAll K H xs ds → Dx K H (.ref a) (.tuple ds)
inductive DxAll (K : PySem.W.Frag) (H : Hp) : List V → List PyData → Prop
  | nil : DxAll K H [] []
  | cons {v : V} {vs : List V} {d : PyData} {ds : List PyData} : Dx K H v d → DxAll K H vs ds → DxAll K H (v :: vs) (d :: ds)
end
mutual
theorem dx_same {K : PySem.W.Frag} {H H' : Hp} (e : Same H H') : ∀ (d : PyData) {v : V}, Dx K H v d → Dx K H' v d
  | _, _, .non => .non
  | _, _, .bl b => .bl b
  | _, _, .int i => .int i
  | _, _, .str x => .str x
  | _, _, .lst h => .lst (e _ _ h)
  | _, _, .dic h => .dic (e _ _ h)
  | .tuple ds, _, .tup h a => .tup (sqt_same e h) (dxa_same e ds a)
theorem dxa_same {K : PySem.W.Frag} {H H' : Hp} (e : Same H H') : ∀ (ds : List PyData) {vs : List V}, DxAll K H vs ds → DxAll K H' vs ds
  | [], _, .nil => .nil
  | d :: ds, _, .cons h a => .cons (dx_same e d h) (dxa_same e ds a)
end
theorem dxa_len {K : PySem.W.Frag} {H : Hp} : ∀ {vs : List V} {ds : List PyData}, DxAll K H vs ds → vs.length = ds.length
  | _, _, .nil => rfl
  | _, _, .cons _ a => by rw [List.length_cons, List.length_cons, dxa_len a]
theorem dxa_at {K : PySem.W.Frag} {H : Hp} : ∀ {vs : List V} {ds : List PyData} {i : Nat} {v : V}, DxAll K H vs ds → vs[i]? = some v → ∃ d, ds[i]? = some d ∧ Dx K H v d
  | _, _, _, _, .nil, h => by simp at h
  | _, _, 0, _, .cons h _, e => ⟨_, rfl, by have := Option.some.inj e; subst this; exact h⟩
  | _, _, i + 1, _, .cons _ a, e => dxa_at (i := i) a (by simpa using e)
mutual
theorem dx_dp {K : PySem.W.Frag} {H : Hp} : ∀ (n : Nat) (d : PyData) {v : V}, Dx K H v d → okV n d = true → Dp K H v d
  | _, _, _, .non, _ => .non
  | _, _, _, .bl b, _ => .bl b
  | _, _, _, .int i, _ => .int i
  | _, _, _, .str x, _ => .str x
  | _, _, _, .lst h, e => by rw [okV_lst] at e; cases e
  | _, _, _, .dic h, e => by rw [okV_lst] at e; cases e
  | 0, .tuple ds, _, .tup h a, e => by rw [okV_tup0] at e; cases e
  | n + 1, .tuple ds, _, .tup h a, e => by
    rw [okV_tup, Bool.and_eq_true] at e
    exact .tup h (dxa_dp n ds a e.2)
theorem dxa_dp {K : PySem.W.Frag} {H : Hp} : ∀ (n : Nat) (ds : List PyData) {vs : List V}, DxAll K H vs ds → okA n ds = true → DpAll K H vs ds
  | _, [], _, .nil, _ => .nil
  | n, d :: ds, _, .cons h a, e => by
    have e2 : (okV n d && okA n ds) = true := by simpa [okA] using e
    rw [Bool.and_eq_true] at e2
    exact .cons (dx_dp n d h e2.1) (dxa_dp n ds a e2.2)
end
mutual
theorem dp_dx {K : PySem.W.Frag} {H : Hp} : ∀ (n : Nat) (d : PyData) {v : V}, okV n d = true → Dp K H v d → Dx K H v d
  | _, _, _, _, .non => .non
  | _, _, _, _, .bl b => .bl b
  | _, _, _, _, .int i => .int i
  | _, _, _, _, .str x => .str x
  | n, .list ds, _, o, .lst h a => by rw [okV_lst] at o; cases o
  | 0, .tuple ds, _, o, .tup h a => by rw [okV_tup0] at o; cases o
  | n + 1, .tuple ds, _, o, .tup h a => .tup h (dpa_dx n ds (by rw [okV_tup, Bool.and_eq_true] at o; exact o.2) a)
theorem dpa_dx {K : PySem.W.Frag} {H : Hp} : ∀ (n : Nat) (ds : List PyData) {vs : List V}, okA n ds = true → DpAll K H vs ds → DxAll K H vs ds
  | _, [], _, _, .nil => .nil
  | n, d :: ds, _, o, .cons h a => by
    simp only [okA, Bool.and_eq_true] at o
    exact .cons (dp_dx n d o.1 h) (dpa_dx n ds o.2 a)
end
theorem kit_dic : ∀ t ∈ ["bool", "int", "str", "tuple"], kitB "dict" t = some false ∧ isK "list" t = false := by decide +kernel
theorem isi_x {K : PySem.W.Frag} {H : Hp} {v : V} {d : PyData} {t : String} {Q : VK} (h : Dx K H v d) (ht : t ∈ ["bool", "int", "str", "tuple"]) (q : Q (.bl (isK (kindOf d) t)) H) : rIsi K [v, .ty t] H Q := by
  have ht2 : t ∈ ["bool", "int", "str", "tuple", "list"] := by
    simp only [List.mem_cons, List.not_mem_nil, or_false] at ht ⊢
    rcases ht with h | h | h | h <;> simp [h]
  have k6 : ∀ {d : PyData}, kindOf d ∈ kinds6 → kitB (kindOf d) t = some (isK (kindOf d) t) := fun h => kit_all _ h _ ht2
  cases h with
  | non => exact ⟨_, .ty t, .type (kindOf .none), .type t, _, rfl, .ty _, .base .non, kit_ty (k6 (d := .none) (by decide)), q⟩
  | bl b => exact ⟨_, .ty t, .type (kindOf (.bool b)), .type t, _, rfl, .ty _, .base (.bl b), kit_ty (k6 (d := .bool b) (by simp [kindOf, kinds6])), q⟩
  | int i => exact ⟨_, .ty t, .type (kindOf (.int i)), .type t, _, rfl, .ty _, .base (.int i), kit_ty (k6 (d := .int i) (by simp [kindOf, kinds6])), q⟩
  | str x => exact ⟨_, .ty t, .type (kindOf (.str x)), .type t, _, rfl, .ty _, .base (.str x), kit_ty (k6 (d := .str x) (by simp [kindOf, kinds6])), q⟩
  | lst h => exact ⟨_, .ty t, .type (kindOf (.list [])), .type t, _, rfl, .ty _, .base (.lst h), kit_ty (k6 (d := .list []) (by simp [kindOf, kinds6])), q⟩
  | dic h =>
    obtain ⟨k1, k2⟩ := kit_dic t ht
    refine ⟨_, .ty t, .type "dict", .type t, false, rfl, .ty _, .base (.dK h), kit_ty k1, ?_⟩
    have : isK (kindOf (.list [])) t = false := k2
    rw [this] at q
    exact q
  | tup h a => exact ⟨_, .ty t, .type (kindOf (.tuple _)), .type t, _, rfl, .ty _, tyx_t h, kit_ty (k6 (d := .tuple _) (by simp [kindOf, kinds6])), q⟩
theorem tisix {K : PySem.W.Frag} {σ : L2.St} {H : Hp} {Q : Bool → Hp → Prop} {i : Nat} {v : V} {d : PyData} {t : String} (hv : σ[i]? = some (some v)) (hd : Dx K H v d) (q : Q (isK (kindOf d) t) H) (ht : t ∈ ["bool", "int", "str", "tuple"] := by simp) :
    tB (tCB (rIsi K) (tCons (tVar i) (tCons (tC (.ty t)) tNil))) σ H Q := ⟨v, hv, (isi_x hd ht ⟨_, rfl, q⟩ : rIsi K [v, .ty t] H (fun x H1 => ∃ c, x = .bl c ∧ Q c H1))⟩
def spW (K : PySem.W.Frag) : Nat → Sp
  | 0 => fun _ _ _ _ => False
  | n + 1 => fun vs H Q _ => ∃ (v : V) (d : PyData), vs = [v, .int (20 - (n : Int))] ∧ n ≤ 20 ∧ Dx K H v d ∧ fits d = true ∧ Q (.bl (okV n d)) H
def sp_isv (K : PySem.W.Frag) : Sp := fun vs H Q _ => ∃ (v : V) (d : PyData), vs = [v] ∧ Dx K H v d ∧ fits d = true ∧ Q (.bl (okV 20 d)) H
section
variable {P : Program} {w : World} {K : PySem.W.Frag} {mg : Str → Option Value} {base : Heap}
theorem okn__is_value_within (T : TX K mg) : ∀ n : Nat, FnOk P w K mg base CX0 (n + 1) T.a__is_value_within T.d__is_value_within ["value", "depth"] (spW K n) := by
  intro n
  induction n with
  | zero => exact T.F__is_value_within.ok sc__is_value_within (fun vs H Q E h => h.elim) (fun cdv A outer s H vs Q E hr h => h.elim)
  | succ n ih__is_value_within =>
    refine T.F__is_value_within.ok sc__is_value_within (fun vs H Q E h => ?_) (fun cdv A outer s H vs Q E hr h => ?_)
    · obtain ⟨v, d, rfl, _⟩ := h
      rfl
    · obtain ⟨v, d, rfl, hn, hd, hf, q⟩ := h
      refine ⟨_, (pss_cons (ps_if (PW.pt (pw_or (pt_cmpR op_isN (pv 0) pe_non (nomark _)) (pw_or1 (pt_val (pe_callB call_isi (by rfl) T.n_isinstance (by decide +kernel) (pa_cons (pv 0) (pa_cons (pe_bltn (v := .ty "bool") (u := .type "bool") (by rfl) T.n_bool (by decide +kernel) rfl) pa_nil))))))) (pss_one (ps_ret pe_bl)) pss_nil)
      (pss_cons (ps_if (pt_val (pe_callB call_isi (by rfl) T.n_isinstance (by decide +kernel) (pa_cons (pv 0) (pa_cons (pe_bltn (v := .ty "int") (u := .type "int") (by rfl) T.n_int (by decide +kernel) rfl) pa_nil)))) (pss_one (ps_ret (pe_cmpR op_le (pe_bits (pv 0)) (pe_glob (v := .int 3000) (by rfl) T.c_MOST_BITS ⟨_, rfl⟩) (nomark _)))) pss_nil)
      (pss_cons (ps_if (pt_val (pe_callB call_isi (by rfl) T.n_isinstance (by decide +kernel) (pa_cons (pv 0) (pa_cons (pe_bltn (v := .ty "str") (u := .type "str") (by rfl) T.n_str (by decide +kernel) rfl) pa_nil)))) (pss_one (ps_ret (pe_and (pe_cmpR op_le (pe_callB call_len (by rfl) T.n_len PySem.boot_len (pa_cons (pv 0) pa_nil)) (pe_glob (v := .int 60000) (by rfl) T.c_MOST_LENGTH ⟨_, rfl⟩) (nomark _)) (pe_one (pe_call (ok_has_plain_characters T) (hr.mono (by omega)) (by rfl) T.g_has_plain_characters T.F_has_plain_characters.kp T.b_has_plain_characters .nil pass0 (pa_cons (pv 0) pa_nil)))))) pss_nil)
      (pss_cons (ps_if (PW.pt (pw_or (pt_not (pt_val (pe_callB call_isi (by rfl) T.n_isinstance (by decide +kernel) (pa_cons (pv 0) (pa_cons (pe_bltn (v := .ty "tuple") (u := .type "tuple") (by rfl) T.n_tuple (by decide +kernel) rfl) pa_nil))))) (pw_or (pt_cmpR op_eq (pv 1) (pe_glob (v := .int 20) (by rfl) T.c_MOST_DEPTH ⟨_, rfl⟩) (nomark _)) (pw_or1 (pt_cmpR op_gt (pe_callB call_len (by rfl) T.n_len PySem.boot_len (pa_cons (pv 0) pa_nil)) (pe_glob (v := .int 60000) (by rfl) T.c_MOST_LENGTH ⟨_, rfl⟩) (nomark _)))))) (pss_one (ps_ret pe_bl)) pss_nil)
      (pss_cons (ps_for PassesOwn.never rfl (pi_tup (pv 0)) (pg_name (i := 2) sc__is_value_within.nd rfl (Or.inl rfl))
        (pss_one (ps_if (pt_not (pt_val (pe_call ih__is_value_within (hr.mono (by omega)) (by rfl) T.g__is_value_within T.F__is_value_within.kp T.b__is_value_within .nil pass0 (pa_cons (pv 2) (pa_cons (pe_op op_add (pv 1) pe_int) pa_nil))))) (pss_one (ps_ret pe_bl)) pss_nil)))
      (pss_one (ps_ret pe_bl))))))), ?_⟩
      dsimp only [tNext, tSeq, tIfS]
      refine or_use (x := decide (v = .non)) (y := isK (kindOf d) "bool") (fun R r => ⟨_, rfl, rfl, _, rfl, r⟩) (fun R r => tisix rfl hd r) ?_
      cases hd with
      | non =>
        rw [okV_non] at q
        exact ifbt rfl q
      | bl b =>
        rw [okV_bl] at q
        exact ifbt rfl q
      | int i =>
        rw [okV_int] at q
        refine ifbf rfl (tisix rfl (.int i) (ifbt rfl ?_))
        exact ⟨_, rfl, i, rfl, _, _, rfl, rfl, q⟩
      | str x =>
        rw [okV_str] at q
        have hx := fits_str hf
        refine ifbf rfl (tisix rfl (.str x) (ifbf rfl (tisix rfl (.str x) (ifbt rfl ?_))))
        refine ⟨_, rfl, _, _, rfl, ⟨sz (by omega), rfl⟩, _, _, rfl, rfl, _, rfl, ?_⟩
        by_cases hc : ((x.length : Nat) : Int) ≤ 60000
        · rw [decide_eq_true hc, Bool.true_and] at q
          exact ift hc ⟨_, rfl, x, rfl, by omega, q⟩
        · rw [decide_eq_false hc, Bool.false_and] at q
          exact iff0 hc q
      | lst h =>
        rw [okV_lst] at q
        refine ifbf rfl (tisix rfl (.lst h) (ifbf rfl (tisix rfl (.lst h) (ifbf rfl ?_))))
        exact tisix rfl (.lst h) ((if_pos rfl).mpr (ifbt rfl q))
      | dic h =>
        rw [okV_lst] at q
        refine ifbf rfl (tisix rfl (.dic h) (ifbf rfl (tisix rfl (.dic h) (ifbf rfl ?_))))
        exact tisix rfl (.dic h) ((if_pos rfl).mpr (ifbt rfl q))
      | @tup p xs ds h0 a =>
        have h := h0
        obtain ⟨hl, hfa⟩ := fits_tup hf
        have hxl := dxa_len a
        refine ifbf rfl (tisix rfl (.tup h0 a) (ifbf rfl (tisix rfl (.tup h0 a) (ifbf rfl ?_))))
        refine or_use (x := false) (y := decide (n = 0) || decide ((ds.length : Int) > 60000)) (fun R r => tisix rfl (.tup h0 a) r) (fun R r => or_use (x := decide (n = 0)) (y := decide ((ds.length : Int) > 60000)) (fun R r => ⟨_, rfl, rfl, _, rfl, ?_⟩) (fun R r => ⟨_, rfl, _, _, rfl, .inr ⟨_, h, rfl⟩, _, _, rfl, rfl, _, rfl, ?_⟩) r) ?_
        · by_cases e : n = 0
          · rw [decide_eq_true e] at r
            rw [decide_eq_true (by rw [e]; rfl)]
            exact r
          · rw [decide_eq_false e] at r
            rw [decide_eq_false (fun z => e (by have := V.int.inj z; omega))]
            exact r
        · rw [hxl]
          exact r
        cases n with
        | zero =>
          rw [okV_tup0] at q
          exact ifbt rfl q
        | succ m =>
          rw [okV_tup] at q
          have e20 : (20 : Int) - ((m + 1 : Nat) : Int) + 1 = 20 - (m : Int) := by omega
          by_cases hl2 : ds.length ≤ 60000
          · rw [decide_eq_true hl2, Bool.true_and] at q
            refine ifbf (by simp; omega) ?_
            refine ⟨_, rfl, p, rfl, ⟨_, h⟩, for_tup (K := K) (a := p) (xs := xs) (fun i σ G => H = G ∧ okA m (ds.take i) = true ∧ ∃ x2, σ = [some (.ref p), some (.int (20 - ((m + 1 : Nat) : Int))), x2]) ⟨rfl, by simp [okA], none, rfl⟩ (fun i σ G _ ⟨e, _⟩ => by rw [← e]; exact h) ?_ ?_⟩
            · rintro i x σ _ hx ⟨rfl, hok, x2, rfl⟩
              obtain ⟨d, hdi, hdx⟩ := dxa_at a hx
              refine ⟨_, rfl, _, rfl, _, _, rfl, rfl, x, d, congrArg (fun z => [x, V.int z]) e20, by omega, hdx, fitsA_at hfa hdi, _, rfl, ?_⟩
              cases ed : okV m d with
              | true => exact ifbf rfl ⟨rfl, by rw [okA_take hdi, hok, ed]; rfl, _, rfl⟩
              | false =>
                rw [okA_no hdi ed] at q
                exact ifbt rfl q
            · rintro σ _ ⟨rfl, hok, x2, rfl⟩
              rw [hxl, List.take_length] at hok
              rw [hok] at q
              exact q
          · rw [decide_eq_false hl2, Bool.false_and] at q
            exact ifbt (by simp; omega) q
theorem ok__is_value_within (T : TX K mg) : FnOk P w K mg base CX0 (22) T.a__is_value_within T.d__is_value_within ["value", "depth"] (spW K 21) := okn__is_value_within T 21
theorem ok_is_value (T : TX K mg) : FnOk P w K mg base CX0 23 T.a_is_value T.d_is_value ["value"] (sp_isv K) := by
  refine T.F_is_value.ok sc_is_value (fun vs H Q E h => ?_) (fun cdv A outer s H vs Q E hr h => ?_)
  · obtain ⟨v, d, rfl, _⟩ := h
    rfl
  · obtain ⟨v, d, rfl, hd, hf, q⟩ := h
    refine ⟨_, (pss_one (ps_ret (pe_call (ok__is_value_within T) (hr.mono (by decide)) (by rfl) T.g__is_value_within T.F__is_value_within.kp T.b__is_value_within .nil pass0 (pa_cons (pv 0) (pa_cons pe_int pa_nil))))), ?_⟩
    exact ⟨_, rfl, v, d, rfl, by decide, hd, hf, q⟩
end
theorem bits_lt {i : Int} (h : ((Builtin.Int.intBits i : Nat) : Int) ≤ 3000) : i.natAbs < Lim := by
  unfold Builtin.Int.intBits at h
  have hL : 2 ^ 3000 ≤ Lim := by
    have : Lim = 2 ^ 3500 := by
      unfold Lim
      rw [show (128 : Nat) = 2 ^ 7 by decide, ← Nat.pow_mul]
    rw [this]
    exact Nat.pow_le_pow_right (by decide) (by decide)
  by_cases h0 : i = 0
  · rw [h0]
    exact Nat.lt_of_lt_of_le (Nat.pow_pos (by decide)) hL
  · have hb : (i == 0) = false := by simpa using h0
    rw [hb] at h
    simp only [Bool.false_eq_true, if_false] at h
    have h1 : i.natAbs.log2 < 3000 := by omega
    exact Nat.lt_of_lt_of_le ((Nat.log2_lt (by omega)).mp h1) hL
theorem enc_small_lim {n : Nat} (h : n ≤ 90000) : n < Lim := Nat.lt_of_le_of_lt h (by
  have : (2 : Nat) ^ 17 ≤ Lim := by
    have : Lim = 2 ^ 3500 := by
      unfold Lim
      rw [show (128 : Nat) = 2 ^ 7 by decide, ← Nat.pow_mul]
    rw [this]
    exact Nat.pow_le_pow_right (by decide) (by decide)
  exact Nat.lt_of_lt_of_le (by decide) this)
def spP (K : PySem.W.Frag) : Nat → Sp
  | 0 => fun _ _ _ _ => False
  | n + 1 => fun vs H Q _ => ∃ (v : V) (d : PyData), vs = [v] ∧ Dp K H v d ∧ okV n d = true ∧ (pkL d).length ≤ 90000 ∧ ∀ p H', H p = none → Same H H' → H' p = some (.lst ((pkL d).map V.int)) → Q (.ref p) H'
theorem none_of {H G : Hp} {p : Addr} (s : Same H G) (h : G p = none) : H p = none := by
  cases e : H p with
  | none => rfl
  | some o => rw [s _ _ e] at h; cases h
/-- a list that is made of a list's head and more -/
theorem cat_new {H : Hp} {a b : Addr} {xs ys : List V} {Q : VK} (ha : H a = some (.lst xs)) (hb : H b = some (.lst ys)) (hl : xs.length + ys.length ≤ 100000) (q : ∀ p, H p = none → Q (.ref p) (upd H p (.lst (xs ++ ys)))) : rCat (.ref a) (.ref b) H Q := ⟨a, b, xs, ys, rfl, rfl, ha, hb, sz hl, q⟩
section
variable {P : Program} {w : World} {K : PySem.W.Frag} {mg : Str → Option Value} {base : Heap}
theorem okn__packed (T : TX K mg) : ∀ n : Nat, FnOk P w K mg base CX0 (n + 1) T.a__packed T.d__packed ["value"] (spP K n) := by
  intro n
  induction n with
  | zero => exact T.F__packed.ok sc__packed (fun vs H Q E h => h.elim) (fun cdv A outer s H vs Q E hr h => h.elim)
  | succ n ih__packed =>
    refine T.F__packed.ok sc__packed (fun vs H Q E h => ?_) (fun cdv A outer s H vs Q E hr h => ?_)
    · obtain ⟨v, d, rfl, _⟩ := h
      rfl
    · obtain ⟨v, d, rfl, hd, hok, hl, q⟩ := h
      refine ⟨_, (pss_cons (ps_if (pt_cmpR op_isN (pv 0) pe_non (nomark _)) (pss_one (ps_ret (pe_lst (pa_cons pe_int pa_nil)))) pss_nil)
      (pss_cons (ps_if (pt_val (pe_callB call_isi (by rfl) T.n_isinstance (by decide +kernel) (pa_cons (pv 0) (pa_cons (pe_bltn (v := .ty "bool") (u := .type "bool") (by rfl) T.n_bool (by decide +kernel) rfl) pa_nil)))) (pss_one (ps_ret (pe_lst (pa_cons (pe_ifExp (pt_val (pv 0)) (pe_glob (v := .int 2) (by rfl) T.c_TRUE_TAG ⟨_, rfl⟩) (pe_glob (v := .int 1) (by rfl) T.c_FALSE_TAG ⟨_, rfl⟩)) pa_nil)))) pss_nil)
      (pss_cons (ps_if (pt_val (pe_callB call_isi (by rfl) T.n_isinstance (by decide +kernel) (pa_cons (pv 0) (pa_cons (pe_bltn (v := .ty "int") (u := .type "int") (by rfl) T.n_int (by decide +kernel) rfl) pa_nil)))) (pss_cons (ps_if (pt_cmpR op_lt (pv 0) pe_int (nomark _)) (pss_one (ps_ret (pe_op op_cat (pe_lst (pa_cons (pe_glob (v := .int 4) (by rfl) T.c_NEGATIVE_TAG ⟨_, rfl⟩) pa_nil)) (pe_call (ok_put_number T) (hr.mono (by omega)) (by rfl) T.g_put_number T.F_put_number.kp T.b_put_number .nil pass0 (pa_cons (pe_op op_sub (pe_un un_neg pe_int) (pv 0)) pa_nil))))) pss_nil)
        (pss_one (ps_ret (pe_op op_cat (pe_lst (pa_cons (pe_glob (v := .int 3) (by rfl) T.c_NATURAL_TAG ⟨_, rfl⟩) pa_nil)) (pe_call (ok_put_number T) (hr.mono (by omega)) (by rfl) T.g_put_number T.F_put_number.kp T.b_put_number .nil pass0 (pa_cons (pv 0) pa_nil)))))) pss_nil)
      (pss_cons (ps_if (pt_val (pe_callB call_isi (by rfl) T.n_isinstance (by decide +kernel) (pa_cons (pv 0) (pa_cons (pe_bltn (v := .ty "str") (u := .type "str") (by rfl) T.n_str (by decide +kernel) rfl) pa_nil)))) (pss_one (ps_ret (pe_op op_cat (pe_op op_cat (pe_lst (pa_cons (pe_glob (v := .int 5) (by rfl) T.c_TEXT_TAG ⟨_, rfl⟩) pa_nil)) (pe_call (ok_put_number T) (hr.mono (by omega)) (by rfl) T.g_put_number T.F_put_number.kp T.b_put_number .nil pass0 (pa_cons (pe_callB call_len (by rfl) T.n_len PySem.boot_len (pa_cons (pv 0) pa_nil)) pa_nil))) (pe_lc (own := [("character", 3)]) (g := gName 3) (tt := tYes) (by rfl) sc__packed.nd (pi_str (pv 0)) (blkOk_by (own := [("character", 3)]) (N := ["value", "row", "member", "character"]) (sc := defScope s__packed) (by decide +kernel)) (fun _ _ _ _ _ => pg_name (i := 3) sc__packed.nd rfl (Or.inl rfl)) (fun _ _ _ _ _ => pts_nil) (fun _ _ _ _ _ => (pe_op op_sub (pe_callB call_ord (by rfl) T.n_ord (by decide +kernel) (pa_cons (pv 3) pa_nil)) (pe_glob (v := .int 32) (by rfl) T.c_SPACE ⟨_, rfl⟩))))))) pss_nil)
      (pss_cons (ps_set (i := 1) sc__packed.nd rfl (Or.inl rfl) (pe_op op_cat (pe_lst (pa_cons (pe_glob (v := .int 6) (by rfl) T.c_TUPLE_TAG ⟨_, rfl⟩) pa_nil)) (pe_call (ok_put_number T) (hr.mono (by omega)) (by rfl) T.g_put_number T.F_put_number.kp T.b_put_number .nil pass0 (pa_cons (pe_callB call_len (by rfl) T.n_len PySem.boot_len (pa_cons (pv 0) pa_nil)) pa_nil))))
      (pss_cons (ps_for PassesOwn.never rfl (pi_tup (pv 0)) (pg_name (i := 2) sc__packed.nd rfl (Or.inl rfl))
        (pss_one (ps_expr (pe_bm PySem.F.plainAttrs_list PySem.F.slot_list_extend PySem.F.type_list_extend mt_extend (pv 1) (pa_cons (pe_call ih__packed (hr.mono (by omega)) (by rfl) T.g__packed T.F__packed.kp T.b__packed .nil pass0 (pa_cons (pv 2) pa_nil)) pa_nil)))))
      (pss_one (ps_ret (pv 1))))))))), ?_⟩
      refine ⟨_, rfl, rfl, _, rfl, ?_⟩
      cases hd with
      | non =>
        refine ifbt rfl ⟨(by show 1 ≤ sizeLine; decide), fun p hp => q p _ hp (same_upd hp) ?_⟩
        rw [upd_same]; rfl
      | bl b =>
        refine ifbf rfl (tisi rfl (.bl b) (ifbt rfl ?_))
        refine ⟨_, rfl, b, rfl, ?_⟩
        cases b with
        | true =>
          refine (if_pos rfl).mpr ⟨(by show 1 ≤ sizeLine; decide), fun p hp => q p _ hp (same_upd hp) ?_⟩
          rw [upd_same]; rfl
        | false =>
          refine (if_neg (by decide)).mpr ⟨(by show 1 ≤ sizeLine; decide), fun p hp => q p _ hp (same_upd hp) ?_⟩
          rw [upd_same]; rfl
      | int i =>
        rw [okV_int] at hok
        have hb := bits_lt (of_decide_eq_true hok)
        refine ifbf rfl (tisi rfl (.int i) (ifbf rfl (tisi rfl (.int i) (ifbt rfl ?_))))
        refine ⟨_, rfl, _, _, rfl, rfl, _, rfl, ifd (fun hn => ?_) (fun hn => ?_)⟩
        · refine ⟨(by show 1 ≤ sizeLine; decide), fun a ha => ?_⟩
          have s1 := same_upd (o := .lst [.int 4]) ha
          refine ⟨1, rfl, _, rfl, _, _, rfl, rfl, (-1 - i).toNat, congrArg (fun z => [V.int z]) (by omega), by omega, fun b G hbn s2 eb => ?_⟩
          have ea := s2 _ _ (upd_same (H := H) (a := a) (o := .lst [.int 4]))
          have hel := enc_lim (show (-1 - i).toNat < Lim by omega)
          refine cat_new ea eb (by rw [List.length_map]; simp only [List.length_cons, List.length_nil]; omega) fun p hp => q p _ ?_ ((s1.trans s2).trans (same_upd hp)) ?_
          · exact none_of (s1.trans s2) hp
          · rw [upd_same]
            have : pkL (.int i) = 4 :: enc (-1 - i).toNat := by simp [pkL, hn]
            rw [this]
            rfl
        · refine ⟨(by show 1 ≤ sizeLine; decide), fun a ha => ?_⟩
          have s1 := same_upd (o := .lst [.int 3]) ha
          refine ⟨_, rfl, i.toNat, congrArg (fun z => [V.int z]) (by omega), by omega, fun b G hbn s2 eb => ?_⟩
          have ea := s2 _ _ (upd_same (H := H) (a := a) (o := .lst [.int 3]))
          have hel := enc_lim (show i.toNat < Lim by omega)
          refine cat_new ea eb (by rw [List.length_map]; simp only [List.length_cons, List.length_nil]; omega) fun p hp => q p _ (none_of (s1.trans s2) hp) ((s1.trans s2).trans (same_upd hp)) ?_
          rw [upd_same]
          have : pkL (.int i) = 3 :: enc i.toNat := by simp [pkL, hn]
          rw [this]
          rfl
      | str x =>
        rw [okV_str] at hok
        obtain ⟨hx1, hx2⟩ := Bool.and_eq_true_iff.mp hok
        have hx : x.length ≤ 60000 := by have := of_decide_eq_true hx1; omega
        refine ifbf rfl (tisi rfl (.str x) (ifbf rfl (tisi rfl (.str x) (ifbf rfl (tisi rfl (.str x) (ifbt rfl ?_))))))
        refine ⟨(by show 1 ≤ sizeLine; decide), fun a ha => ?_⟩
        have s1 := same_upd (o := .lst [.int 5]) ha
        refine ⟨_, rfl, _, _, rfl, ⟨sz (by omega), rfl⟩, x.length, rfl, enc_small_lim (by omega), fun b G hbn s2 eb => ?_⟩
        have ea := s2 _ _ (upd_same (H := H) (a := a) (o := .lst [.int 5]))
        have hel := enc_lim (enc_small_lim (show x.length ≤ 90000 by omega))
        refine cat_new ea eb (by rw [List.length_map]; simp only [List.length_cons, List.length_nil]; omega) fun p hp => ?_
        have s3 := (s1.trans s2).trans (same_upd (o := .lst ([V.int 5] ++ (enc x.length).map V.int)) hp)
        have ep : (upd G p (.lst ([V.int 5] ++ (enc x.length).map V.int))) p = some (.lst ([V.int 5] ++ (enc x.length).map V.int)) := upd_same
        generalize upd G p (.lst ([V.int 5] ++ (enc x.length).map V.int)) = G1 at s3 ep
        refine ⟨_, rfl, x, rfl, fun D hD => ?_⟩
        refine lc_it walk_str (fun i G => Same G1 G ∧ G D = some (.lst (((x.cps.toList.take i).map fun (c : Nat) => (c : Int) - 32).map V.int))) ⟨same_upd hD, upd_same⟩ (fun _ _ _ _ => trivial) ?_ ?_
        · rintro i y G2 G3 hi ⟨s4, e4⟩ ⟨rfl, c, hc, rfl⟩
          refine ⟨rfl, ?_⟩
          dsimp only [tYes]
          refine (if_pos rfl).mpr ?_
          have hxl : x.cps.toList.length ≤ 60000 := by rw [← zlen]; exact hx
          refine ⟨_, rfl, _, rfl, rfl, _, _, rfl, rfl, _, e4, szl (by rw [List.length_map, List.length_map, List.length_take]; omega), same_put s4 hD, ?_⟩
          rw [upd_same, take_more (cps_at hc), List.map_append, List.map_append]
          rfl
        · rintro G2 ⟨s4, e4⟩
          rw [sizeL, List.take_length] at e4
          have hxl : x.cps.toList.length ≤ 60000 := by rw [← zlen]; exact hx
          refine cat_new (s4 _ _ ep) e4 (by simp only [List.length_map, List.length_append, List.length_cons, List.length_nil]; omega) fun p2 hp2 => q p2 _ (none_of (s3.trans s4) hp2) ((s3.trans s4).trans (same_upd hp2)) ?_
          rw [upd_same]
          simp [pkL]
      | lst h a => rw [okV_lst] at hok; cases hok
      | @tup p xs ds h a =>
        cases n with
        | zero => rw [okV_tup0] at hok; cases hok
        | succ m =>
          rw [okV_tup] at hok
          obtain ⟨hl1, hoa⟩ := Bool.and_eq_true_iff.mp hok
          have hdl : ds.length ≤ 60000 := of_decide_eq_true hl1
          have hxl := dpa_len a
          have hpk : pkL (.tuple ds) = 6 :: (enc ds.length ++ pkA ds) := by simp [pkL]
          rw [hpk] at hl q
          have hl2 : (pkA ds).length + (enc ds.length).length + 1 ≤ 90000 := by
            simp only [List.length_cons, List.length_append] at hl
            omega
          refine ifbf rfl (tisi rfl (.tup h a) (ifbf rfl (tisi rfl (.tup h a) (ifbf rfl (tisi rfl (.tup h a) (ifbf rfl ?_))))))
          refine ⟨(by show 1 ≤ sizeLine; decide), fun a1 ha => ?_⟩
          have s1 := same_upd (o := .lst [.int 6]) ha
          refine ⟨_, rfl, _, _, rfl, .inr ⟨_, sqt_same s1 h, rfl⟩, ds.length, by rw [hxl]; rfl, enc_small_lim (by omega), fun b G hbn s2 eb => ?_⟩
          have ea := s2 _ _ (upd_same (H := H) (a := a1) (o := .lst [.int 6]))
          have hel := enc_lim (enc_small_lim (show ds.length ≤ 90000 by omega))
          refine cat_new ea eb (by rw [List.length_map]; simp only [List.length_cons, List.length_nil]; omega) fun r hr1 => ?_
          have s3 := (s1.trans s2).trans (same_upd (o := .lst ([V.int 6] ++ (enc ds.length).map V.int)) hr1)
          have er : (upd G r (.lst ([V.int 6] ++ (enc ds.length).map V.int))) r = some (.lst ((6 :: enc ds.length).map V.int)) := upd_same
          have hrH := none_of (s1.trans s2) hr1
          generalize upd G r (.lst ([V.int 6] ++ (enc ds.length).map V.int)) = G1 at s3 er
          refine ⟨_, rfl, p, rfl, ⟨_, sqt_same s3 h⟩, for_tup (K := K) (a := p) (xs := xs) (fun i σ G => ∃ x2, σ = [some (.ref p), some (.ref r), x2, none] ∧ Same H G ∧ G r = some (.lst (((6 :: enc ds.length) ++ pkA (ds.take i)).map V.int))) ⟨none, rfl, s3, by rw [er]; simp [pkA]⟩ (fun i σ G _ ⟨_, _, s, _⟩ => sqt_same s h) ?_ ?_⟩
          · rintro i x σ G2 hx ⟨x2, rfl, s4, e4⟩
            obtain ⟨d, hdi, hdx⟩ := dpa_at a hx
            have hat := pkL_at hdi
            refine ⟨_, rfl, .inl ⟨rfl, _, sql e4⟩, _, rfl, x, d, rfl, dp_same s4 _ hdx, okA_at hoa hdi, by omega, fun b2 G3 hb2 s5 e5 => ?_⟩
            have e6 := s5 _ _ e4
            refine ⟨r, b2, _, _, rfl, rfl, e6, e5, sz (by simp only [List.length_map, List.length_append, List.length_cons]; omega), ?_⟩
            refine ⟨_, rfl, same_put (s4.trans s5) hrH, ?_⟩
            rw [upd_same, pkA_take hdi, ← List.map_append, List.append_assoc]
          · rintro σ G2 ⟨x2, rfl, s4, e4⟩
            rw [hxl, List.take_length] at e4
            exact ⟨_, rfl, q r G2 hrH s4 (by rw [e4]; rfl)⟩
theorem ok__packed (T : TX K mg) : FnOk P w K mg base CX0 (22) T.a__packed T.d__packed ["value"] (spP K 21) := okn__packed T 21
end
end My
namespace My
open PySem PySem.Spec PyProof.Rows L2
def sp_pack (K : PySem.W.Frag) (cN : Addr) : Sp := fun vs H Q E => ∃ (v : V) (d : PyData), vs = [v] ∧ Dx K H v d ∧ fits d = true ∧
  (okV 20 d = true → (pkL d).length ≤ 90000 ∧ ∀ p H', H p = none → Same H H' → H' p = some (.lst ((pkL d).map V.int)) → Q (.ref p) H') ∧ (okV 20 d = false → E (.ref cN) none H)
section
variable {P : Program} {w : World} {K : PySem.W.Frag} {mg : Str → Option Value} {base : Heap}
theorem ok_pack (T : TX K mg) : FnOk P w K mg base (L2N.CX P w) 24 T.a_pack T.d_pack ["value"] (sp_pack K T.a_NotAValue) := by
  refine HotE.okN T.F_pack sc_pack (fun vs H Q E h => ?_) (fun cdv A outer s H vs Q E hr h => ?_)
  · obtain ⟨v, d, rfl, _⟩ := h
    rfl
  · obtain ⟨v, d, rfl, hd, hf, q1, q2⟩ := h
    refine ⟨_, (pss_cons (ps_if (pt_not (pt_val (pe_call (ok_is_value T) (hr.mono (by decide)) (by rfl) T.g_is_value T.F_is_value.kp T.b_is_value .nil pass0 (pa_cons (pv 0) pa_nil)))) (pss_one (L2N.ps_raise rfl (L2N.takes_of rfl rfl rfl rfl) (L2N.pmk_own PySem.F.excBase_ValueError T.x_NotAValue T.g_NotAValue T.k_NotAValue (raises_own T.s_NotAValue T.t_NotAValue) rfl))) pss_nil)
      (pss_one (ps_ret (pe_call (ok__packed T) (hr.mono (by decide)) (by rfl) T.g__packed T.F__packed.kp T.b__packed .nil pass0 (pa_cons (pv 0) pa_nil))))), ?_⟩
    refine ⟨_, rfl, v, d, rfl, hd, hf, _, rfl, ?_⟩
    cases e : okV 20 d with
    | true =>
      obtain ⟨hl, q⟩ := q1 e
      exact ifbf rfl ⟨_, rfl, v, d, rfl, dx_dp 20 d hd e, e, hl, q⟩
    | false => exact ifbt rfl (q2 e)
end
mutual
theorem okV_fits : ∀ (n : Nat) (d : PyData), okV n d = true → fits d = true
  | _, .none, _ => by simp [fits]
  | _, .bool _, _ => by simp [fits]
  | _, .int _, _ => by simp [fits]
  | n, .str x, h => by
    rw [okV_str, Bool.and_eq_true, decide_eq_true_eq] at h
    simp only [fits, decide_eq_true_eq]
    omega
  | 0, .tuple ds, h => by rw [okV_tup0] at h; cases h
  | n + 1, .tuple ds, h => by
    rw [okV_tup, Bool.and_eq_true, decide_eq_true_eq] at h
    simp only [fits, Bool.and_eq_true, decide_eq_true_eq]
    exact ⟨by omega, okA_fits n ds h.2⟩
  | _, .list ds, h => by rw [okV_lst] at h; cases h
  | m, .dict ds, h => by cases m <;> simp [okV] at h
theorem okA_fits : ∀ (n : Nat) (ds : List PyData), okA n ds = true → fitsA ds = true
  | _, [], _ => by simp [fitsA]
  | n, d :: ds, h => by
    simp only [okA, Bool.and_eq_true] at h
    simp only [fitsA, Bool.and_eq_true]
    exact ⟨okV_fits n d h.1, okA_fits n ds h.2⟩
end
end My
namespace My
open PySem PySem.Spec PyProof.Rows L2
/-! reading a value: the mirror -/
inductive TR where
  | ok (d : PyData) (n : Nat)
  | trunc
  | malf
inductive T3 where
  | ok (cs : List Nat)
  | trunc
  | malf
def txF : Nat → List Int → List Nat → T3
  | 0, _, acc => .ok acc
  | _ + 1, [], _ => .trunc
  | k + 1, b :: bs, acc => if 95 ≤ b ∨ b = 5 then .malf else txF k bs (acc ++ [(b + 32).toNat])
def memF (f : List Int → TR) : Nat → List Int → List PyData → Nat → TR
  | 0, _, acc, n => .ok (.tuple acc) n
  | k + 1, bs, acc, n => match f bs with
    | .ok d c => memF f k (bs.drop c) (acc ++ [d]) (n + c)
    | .trunc => .trunc
    | .malf => .malf
def TR.shift (j : Nat) : TR → TR
  | .ok d n => .ok d (n + j)
  | .trunc => .trunc
  | .malf => .malf
theorem memF_shift (f : List Int → TR) (j : Nat) : ∀ (k : Nat) (bs : List Int) (acc : List PyData) (n : Nat), memF f k bs acc (n + j) = (memF f k bs acc n).shift j := by
  intro k
  induction k with
  | zero => intro bs acc n; rfl
  | succ k ih =>
    intro bs acc n
    unfold memF
    cases f bs with
    | ok d c =>
      show memF f k (bs.drop c) (acc ++ [d]) (n + j + c) = _
      rw [show n + j + c = n + c + j by omega]
      exact ih _ _ _
    | trunc => rfl
    | malf => rfl
def constD (t : Int) : PyData := if t = 0 then .none else .bool (decide (t = 2))
def chkI (i : Int) (k : Nat) : TR := if bitsOk i = true then .ok (.int i) k else .malf
def tvT (r : T3) (k : Nat) : TR := match r with
  | .ok cs => .ok (.str ⟨cs.toArray⟩) k
  | .trunc => .trunc
  | .malf => .malf
def tvM (mm : Option (List Int → TR)) (n : Nat) (bs : List Int) (k : Nat) : TR := match mm with
  | some f => memF f n bs [] k
  | none => .malf
def tvC (mm : Option (List Int → TR)) (t : Int) (r : List Int) : TR := if 6 < t then .malf else if t ≤ 2 then .ok (constD t) 1 else if t = 6 ∧ mm.isNone = true then .malf else
    match rd r with
    | .trunc => .trunc
    | .malf => .malf
    | .num n c => if t = 3 then chkI n (1 + c) else if t = 4 then chkI (-1 - n) (1 + c) else if 60000 < n then .malf
      else if t = 5 then tvT (txF n.toNat (r.drop c) []) (1 + c + n.toNat)
      else tvM mm n.toNat (r.drop c) (1 + c)
def tvB (mm : Option (List Int → TR)) : List Int → TR
  | [] => .trunc
  | t :: r => tvC mm t r
def tv : Nat → List Int → TR
  | 0 => tvB none
  | m + 1 => tvB (some (tv m))
theorem rdGo_len : ∀ (f c : Nat) (acc : Int) (bs : List Int) (n : Int) (k : Nat), rdGo f c acc bs = .num n k → k ≤ c + bs.length ∧ c < k
  | 0, _, _, _, _, _, h => by cases h
  | _ + 1, _, _, [], _, _, h => by cases h
  | f + 1, c, acc, b :: bs, n, k, h => by
    unfold rdGo at h
    split at h
    · split at h
      · cases h
      · injection h with h1 h2
        rw [List.length_cons]
        omega
    · have := rdGo_len f (c + 1) _ bs n k h
      rw [List.length_cons]
      omega
theorem rdGo_nn : ∀ (f c : Nat) (acc : Int) (bs : List Int) (n : Int) (k : Nat), Bytes bs → 0 ≤ acc → rdGo f c acc bs = .num n k → 0 ≤ n
  | 0, _, _, _, _, _, _, _, h => by cases h
  | _ + 1, _, _, [], _, _, _, _, h => by cases h
  | f + 1, c, acc, b :: bs, n, k, hb, h0, h => by
    have hb0 := hb b List.mem_cons_self
    have hp : (0 : Int) < 128 ^ c := Int.pow_pos (by decide)
    unfold rdGo at h
    split at h
    · split at h
      · cases h
      · injection h with h1 h2
        have := Int.mul_nonneg hb0.1 (Int.le_of_lt hp)
        omega
    · have := Int.mul_nonneg (show (0 : Int) ≤ b - 128 by omega) (Int.le_of_lt hp)
      exact rdGo_nn f (c + 1) _ bs n k (fun x hx => hb x (List.mem_cons_of_mem _ hx)) (by omega) h
theorem txF_len : ∀ (k : Nat) (bs : List Int) (acc cs : List Nat), txF k bs acc = .ok cs → k ≤ bs.length
  | 0, _, _, _, _ => Nat.zero_le _
  | _ + 1, [], _, _, h => by cases h
  | k + 1, b :: bs, acc, cs, h => by
    unfold txF at h
    split at h
    · cases h
    · have := txF_len k bs _ cs h
      rw [List.length_cons]
      omega
theorem memF_len {f : List Int → TR} (hf : ∀ bs d k, f bs = .ok d k → k ≤ bs.length) : ∀ (k : Nat) (bs : List Int) (acc : List PyData) (n : Nat) (d : PyData) (j : Nat), memF f k bs acc n = .ok d j → j ≤ n + bs.length
  | 0, _, _, _, _, _, h => by
    injection h with h1 h2
    omega
  | k + 1, bs, acc, n, d, j, h => by
    unfold memF at h
    cases e : f bs with
    | ok d2 c =>
      rw [e] at h
      have h1 := hf bs d2 c e
      have h2 := memF_len hf k (bs.drop c) _ _ d j h
      rw [List.length_drop] at h2
      omega
    | trunc => rw [e] at h; cases h
    | malf => rw [e] at h; cases h
theorem tvB_len {mm : Option (List Int → TR)} (hm : ∀ f, mm = some f → ∀ bs d k, f bs = .ok d k → k ≤ bs.length) : ∀ (bs : List Int) (d : PyData) (k : Nat), tvB mm bs = .ok d k → k ≤ bs.length
  | [], _, _, h => by cases h
  | t :: r, d, k, h => by
    rw [List.length_cons]
    have h : tvC mm t r = .ok d k := h
    unfold tvC at h
    split at h
    · cases h
    split at h
    · injection h with h1 h2
      omega
    split at h
    · cases h
    cases e : rd r with
    | trunc => rw [e] at h; cases h
    | malf => rw [e] at h; cases h
    | num n c =>
      rw [e] at h
      have hc := (rdGo_len 500 0 0 r n c e).1
      simp only at h
      split at h
      · unfold chkI at h
        split at h
        · injection h with h1 h2; omega
        · cases h
      split at h
      · unfold chkI at h
        split at h
        · injection h with h1 h2; omega
        · cases h
      split at h
      · cases h
      split at h
      · cases e2 : txF n.toNat (r.drop c) [] with
        | ok cs =>
          rw [e2] at h
          unfold tvT at h
          have := txF_len _ _ _ _ e2
          rw [List.length_drop] at this
          injection h with h1 h2
          omega
        | trunc => rw [e2] at h; cases h
        | malf => rw [e2] at h; cases h
      · cases mm with
        | none => cases h
        | some f =>
          have := memF_len (hm f rfl) _ _ _ _ d k h
          rw [List.length_drop] at this
          omega
theorem tv_len : ∀ (m : Nat) (bs : List Int) (d : PyData) (k : Nat), tv m bs = .ok d k → k ≤ bs.length
  | 0 => tvB_len (fun f h => by cases h)
  | m + 1 => tvB_len (fun f h => by injection h with h; subst h; exact tv_len m)
/-! what is read is a value -/
theorem txF_ok : ∀ (k : Nat) (bs : List Int) (acc cs : List Nat), Bytes bs → (∀ c ∈ acc, plainC c = true) → txF k bs acc = .ok cs → (∀ c ∈ cs, plainC c = true) ∧ cs.length = acc.length + k
  | 0, _, acc, cs, _, h0, h => by
    injection h with h
    subst h
    exact ⟨h0, rfl⟩
  | _ + 1, [], _, _, _, _, h => by cases h
  | k + 1, b :: bs, acc, cs, hb, h0, h => by
    unfold txF at h
    split at h
    · cases h
    · rename_i hx
      have hb0 := hb b List.mem_cons_self
      obtain ⟨h1, h2⟩ := txF_ok k bs _ cs (fun x hx => hb x (List.mem_cons_of_mem _ hx)) (fun c hc => by
        rcases List.mem_append.mp hc with z | z
        · exact h0 c z
        · rw [List.mem_singleton] at z
          rw [z]
          unfold plainC
          have e1 : ¬ (b + 32).toNat < 32 := by omega
          have e2 : ¬ 126 < (b + 32).toNat := by omega
          have e3 : ¬ (b + 32).toNat = 37 := by omega
          simp [e1, e2, e3]) h
      exact ⟨h1, by rw [h2, List.length_append]; simp only [List.length_cons, List.length_nil]; omega⟩
theorem okA_app {n : Nat} : ∀ {ds : List PyData} {d : PyData}, okA n ds = true → okV n d = true → okA n (ds ++ [d]) = true
  | [], d, _, h => by simp [okA, h]
  | e :: ds, d, h, h2 => by
    simp only [okA, Bool.and_eq_true] at h
    show okA n (e :: (ds ++ [d])) = true
    simp only [okA, Bool.and_eq_true]
    exact ⟨h.1, okA_app h.2 h2⟩
theorem bytes_drop {bs : List Int} (c : Nat) (h : Bytes bs) : Bytes (bs.drop c) := fun b hb => h b (List.mem_of_mem_drop hb)
theorem memF_ok {f : List Int → TR} {m : Nat} (hf : ∀ bs d k, Bytes bs → f bs = .ok d k → okV m d = true) : ∀ (k : Nat) (bs : List Int) (acc : List PyData) (n : Nat) (d : PyData) (j : Nat), Bytes bs → okA m acc = true → memF f k bs acc n = .ok d j → ∃ ds, d = .tuple ds ∧ okA m ds = true ∧ ds.length = acc.length + k
  | 0, _, acc, _, _, _, _, h0, h => by
    injection h with h1 h2
    exact ⟨acc, h1.symm, h0, rfl⟩
  | k + 1, bs, acc, n, d, j, hb, h0, h => by
    unfold memF at h
    cases e : f bs with
    | ok d2 c =>
      rw [e] at h
      obtain ⟨ds, h1, h2, h3⟩ := memF_ok hf k (bs.drop c) _ _ d j (bytes_drop c hb) (okA_app h0 (hf bs d2 c hb e)) h
      exact ⟨ds, h1, h2, by rw [h3, List.length_append]; simp only [List.length_cons, List.length_nil]; omega⟩
    | trunc => rw [e] at h; cases h
    | malf => rw [e] at h; cases h
theorem tvB_ok {mm : Option (List Int → TR)} {m : Nat} (hm : ∀ f, mm = some f → ∃ j, m = j + 1 ∧ ∀ bs d k, Bytes bs → f bs = .ok d k → okV j d = true) : ∀ (bs : List Int) (d : PyData) (k : Nat), Bytes bs → tvB mm bs = .ok d k → okV m d = true
  | [], _, _, _, h => by cases h
  | t :: r, d, k, hb, h => by
    have hbr : Bytes r := fun x hx => hb x (List.mem_cons_of_mem _ hx)
    have h : tvC mm t r = .ok d k := h
    unfold tvC at h
    split at h
    · cases h
    split at h
    · injection h with h1 h2
      rw [← h1]
      unfold constD
      split
      · exact okV_non m
      · exact okV_bl m _
    split at h
    · cases h
    cases e : rd r with
    | trunc => rw [e] at h; cases h
    | malf => rw [e] at h; cases h
    | num n c =>
      rw [e] at h
      simp only at h
      have hn := rdGo_nn 500 0 0 r n c hbr (by decide) e
      have chk : ∀ (i : Int) (j : Nat), chkI i j = .ok d k → okV m d = true := fun i j h => by
        unfold chkI at h
        split at h
        · rename_i hb
          injection h with h1 h2
          rw [← h1, okV_int]
          unfold bitsOk at hb
          exact decide_eq_true (by have := of_decide_eq_true hb; omega)
        · cases h
      split at h
      · exact chk _ _ h
      split at h
      · exact chk _ _ h
      split at h
      · cases h
      split at h
      · cases e2 : txF n.toNat (r.drop c) [] with
        | ok cs =>
          rw [e2] at h
          unfold tvT at h
          obtain ⟨h1, h2⟩ := txF_ok _ _ _ _ (bytes_drop c hbr) (fun c hc => by cases hc) e2
          injection h with h3 h4
          rw [← h3, okV_str]
          rw [List.length_nil, Nat.zero_add] at h2
          have hl : Str.length ⟨cs.toArray⟩ = cs.length := by show cs.toArray.size = _; simp
          rw [hl, h2, Bool.and_eq_true]
          refine ⟨decide_eq_true (by omega), ?_⟩
          unfold plainS
          rw [List.all_eq_true]
          exact fun x hx => h1 x (by simpa using hx)
        | trunc => rw [e2] at h; cases h
        | malf => rw [e2] at h; cases h
      · cases mm with
        | none => cases h
        | some f =>
          obtain ⟨j, hj, hf⟩ := hm f rfl
          obtain ⟨ds, h1, h2, h3⟩ := memF_ok hf _ _ _ _ d k (bytes_drop c hbr) (by simp [okA]) h
          rw [h1, hj, okV_tup, h2, Bool.and_true]
          refine decide_eq_true ?_
          rw [h3, List.length_nil]
          omega
theorem tv_ok : ∀ (m : Nat) (bs : List Int) (d : PyData) (k : Nat), Bytes bs → tv m bs = .ok d k → okV m d = true
  | 0 => tvB_ok (fun f h => by cases h)
  | m + 1 => tvB_ok (fun f h => ⟨m, rfl, by injection h with h; subst h; exact tv_ok m⟩)
/-! values hold no list: a list may change -/
mutual
theorem dp_off {K : PySem.W.Frag} {G G' : Hp} {o : Addr} {xs : List V} (e : G o = some (.lst xs)) (k : ∀ b w, b ≠ o → G b = some w → G' b = some w) : ∀ (n : Nat) (d : PyData) {v : V}, okV n d = true → Dp K G v d → Dp K G' v d
  | _, _, _, _, .non => .non
  | _, _, _, _, .bl b => .bl b
  | _, _, _, _, .int i => .int i
  | _, _, _, _, .str x => .str x
  | n, .list ds, _, h, .lst _ _ => by rw [okV_lst] at h; cases h
  | 0, .tuple ds, _, h, .tup _ _ => by rw [okV_tup0] at h; cases h
  | n + 1, .tuple ds, _, h, .tup s a => by
    rw [okV_tup, Bool.and_eq_true] at h
    refine .tup ?_ (dpa_off e k n ds h.2 a)
    rcases s with (s | ⟨ob, s⟩) | s
    · exact .inl (.inl (k _ _ (fun z => by rw [z, e] at s; cases s) s))
    · exact .inl (.inr ⟨ob, k _ _ (fun z => by rw [z, e] at s; cases s) s⟩)
    · exact .inr s
theorem dpa_off {K : PySem.W.Frag} {G G' : Hp} {o : Addr} {xs : List V} (e : G o = some (.lst xs)) (k : ∀ b w, b ≠ o → G b = some w → G' b = some w) : ∀ (n : Nat) (ds : List PyData) {vs : List V}, okA n ds = true → DpAll K G vs ds → DpAll K G' vs ds
  | _, [], _, _, .nil => .nil
  | n, d :: ds, _, h, .cons s a => by
    simp only [okA, Bool.and_eq_true] at h
    exact .cons (dp_off e k n d h.1 s) (dpa_off e k n ds h.2 a)
end
theorem joinL_nil : ∀ cs : List Nat, TL.joinL [] (cs.map fun c => [c]) = cs
  | [] => rfl
  | [c] => rfl
  | c :: d :: r => by
    show [c] ++ ([] ++ TL.joinL [] ((d :: r).map fun c => [c])) = _
    rw [joinL_nil (d :: r)]
    rfl
theorem join_signs (cs : List Nat) : Txt.join ("" : Str) (cs.map fun c => (⟨#[c]⟩ : Str)) = ⟨cs.toArray⟩ := by
  have h := SX.join_S [] (cs.map fun c => [c])
  rw [joinL_nil, List.map_map] at h
  have e : ("" : Str) = SX.S [] := by decide +kernel
  rw [e]
  exact h
theorem signs_len (cs : List Nat) : ((cs.map fun c => (⟨#[c]⟩ : Str)).map (·.length)).sum = cs.length := by
  induction cs with
  | nil => rfl
  | cons c cs ih => rw [List.map_cons, List.map_cons, List.sum_cons, ih, List.length_cons]; show 1 + _ = _; omega
theorem sign_len (c : Nat) : (⟨#[c]⟩ : Str).length = 1 := rfl
def chS : Str := " !\"#$ &'()*+,-./0123456789:;<=>?@ABCDEFGHIJKLMNOPQRSTUVWXYZ[\\]^_`abcdefghijklmnopqrstuvwxyz{|}~"
theorem ch_at : ∀ b : Nat, b < 95 → b ≠ 5 → chS.cps.toList[b]? = some (b + 32) := by decide +kernel
theorem ch_len : chS.length = 95 := by decide +kernel
def sp_chk (cM : Addr) : Sp := fun vs H Q E => ∃ (i : Int), vs = [.int i] ∧ (bitsOk i = true → Q (.int i) H) ∧ (bitsOk i = false → E (.ref cM) none H)
def sp_tx (K : PySem.W.Frag) (cT cM : Addr) : Sp := fun vs H Q E => ∃ (a : Addr) (bs : List Int) (i n : Nat), vs = [.ref a, .int (i : Int), .int (n : Int)] ∧ SqL K H a (bs.map V.int) ∧ Bytes bs ∧ i ≤ bs.length ∧ bs.length ≤ 90000 ∧ n ≤ 60000 ∧
  (∀ cs, txF n (bs.drop i) [] = .ok cs → ∀ p H', Same H H' → H' p = some (.tup [.str ⟨cs.toArray⟩, .int ((i + n : Nat) : Int)]) → Q (.ref p) H') ∧ (txF n (bs.drop i) [] = .trunc → ∀ H', Same H H' → E (.ref cT) none H') ∧ (txF n (bs.drop i) [] = .malf → ∀ H', Same H H' → E (.ref cM) none H')
/-- what a reading gives, from index i on -/
def Gives (K : PySem.W.Frag) (cT cM : Addr) (i : Nat) (r : TR) (H : Hp) (Q : VK) (E : XK) : Prop := match r with
  | .ok d k => ∀ p v H', Same H H' → H' p = some (.tup [v, .int ((i + k : Nat) : Int)]) → Dp K H' v d → Q (.ref p) H'
  | .trunc => ∀ H', Same H H' → E (.ref cT) none H'
  | .malf => ∀ H', Same H H' → E (.ref cM) none H'
def spTV (K : PySem.W.Frag) (cT cM : Addr) (m : Nat) : Sp := fun vs H Q E => ∃ (a : Addr) (bs : List Int) (i : Nat), vs = [.ref a, .int (i : Int), .int (20 - (m : Int))] ∧ m ≤ 20 ∧ SqL K H a (bs.map V.int) ∧ Bytes bs ∧ i ≤ bs.length ∧ bs.length ≤ 90000 ∧ Gives K cT cM i (tv m (bs.drop i)) H Q E
def spTM (K : PySem.W.Frag) (cT cM : Addr) (m : Nat) : Sp := fun vs H Q E => ∃ (a : Addr) (bs : List Int) (i n : Nat), vs = [.ref a, .int (i : Int), .int (n : Int), .int (20 - (m : Int))] ∧ m ≤ 20 ∧ SqL K H a (bs.map V.int) ∧ Bytes bs ∧ i ≤ bs.length ∧ bs.length ≤ 90000 ∧ n ≤ 60000 ∧ Gives K cT cM i (memF (tv m) n (bs.drop i) [] 0) H Q E
section
variable {P : Program} {w : World} {K : PySem.W.Frag} {mg : Str → Option Value} {base : Heap}
theorem ok__checked_integer (T : TX K mg) : FnOk P w K mg base (L2.CX P w) 1 T.a__checked_integer T.d__checked_integer ["number"] (sp_chk T.a_Malformed) := by
  refine T.F__checked_integer.okX sc__checked_integer (fun vs H Q E h => ?_) (fun cdv A outer s H vs Q E hr h => ?_)
  · obtain ⟨i, rfl, _⟩ := h
    rfl
  · obtain ⟨i, rfl, q1, q2⟩ := h
    refine ⟨_, (pss_cons (ps_if (pt_cmpR op_gt (pe_bits (pv 0)) (pe_glob (v := .int 3000) (by rfl) T.c_MOST_BITS ⟨_, rfl⟩) (nomark _)) (pss_one (ps_raise rfl (takes_of rfl rfl rfl rfl) (pmk_own PySem.F.excBase_ValueError T.x_Malformed T.g_Malformed T.k_Malformed (raises_own T.s_Malformed T.t_Malformed) rfl))) pss_nil)
      (pss_one (ps_ret (pv 0)))), ?_⟩
    refine ⟨_, rfl, i, rfl, _, _, rfl, rfl, _, rfl, ifd (fun hc => ?_) (fun hc => ?_)⟩
    · exact q2 (by unfold bitsOk; exact decide_eq_false (by omega))
    · exact ⟨_, rfl, q1 (by unfold bitsOk; exact decide_eq_true (by omega))⟩
theorem ok__take_text (T : TX K mg) : FnOk P w K mg base (L2.CX P w) 1 T.a__take_text T.d__take_text ["row", "index", "length"] (sp_tx K T.a_Truncated T.a_Malformed) := by
  refine T.F__take_text.okX sc__take_text (fun vs H Q E h => ?_) (fun cdv A outer s H vs Q E hr h => ?_)
  · obtain ⟨a, bs, i, n, rfl, _⟩ := h
    rfl
  · obtain ⟨a, bs, i, n, rfl, hS, hb, hi, hlen, hn, q, qT, qM⟩ := h
    refine ⟨_, (pss_cons (ps_set (i := 3) sc__take_text.nd rfl (Or.inl rfl) (pe_lst pa_nil))
      (pss_cons (ps_for (passes_of rfl) rfl (pi_range2 (by rfl) T.n_range (pa_cons (pv 1) (pa_cons (pe_op op_add (pv 1) (pv 2)) pa_nil))) (pg_name (i := 4) sc__take_text.nd rfl (Or.inl rfl))
        (pss_cons (ps_if (pt_cmpR op_ge (pv 4) (pe_callB call_len_seq (by rfl) T.n_len PySem.boot_len (pa_cons (pv 0) pa_nil)) (nomark _)) (pss_one (ps_raise rfl (takes_of rfl rfl rfl rfl) (pmk_own PySem.F.excBase_ValueError T.x_Truncated T.g_Truncated T.k_Truncated (raises_own T.s_Truncated T.t_Truncated) rfl))) pss_nil)
        (pss_cons (ps_set (i := 5) sc__take_text.nd rfl (Or.inl rfl) (pe_ix ix_list (pv 0) (pv 4) (fun _ _ => rfl)))
        (pss_cons (ps_if (PW.pt (pw_or (pt_cmpR op_ge (pv 5) (pe_callB call_len_str (by rfl) T.n_len PySem.boot_len (pa_cons (pe_glob (v := .str " !\"#$ &'()*+,-./0123456789:;<=>?@ABCDEFGHIJKLMNOPQRSTUVWXYZ[\\]^_`abcdefghijklmnopqrstuvwxyz{|}~") (by rfl) T.c_CHARACTERS ⟨_, rfl⟩) pa_nil)) (nomark _)) (pw_or1 (pt_cmpR op_eq (pv 5) (pe_glob (v := .int 5) (by rfl) T.c_PERCENT_BYTE ⟨_, rfl⟩) (nomark _))))) (pss_one (ps_raise rfl (takes_of rfl rfl rfl rfl) (pmk_own PySem.F.excBase_ValueError T.x_Malformed T.g_Malformed T.k_Malformed (raises_own T.s_Malformed T.t_Malformed) rfl))) pss_nil)
        (pss_one (ps_expr (pe_bm PySem.F.plainAttrs_list PySem.F.slot_list_append PySem.F.type_list_append mt_append (pv 3) (pa_cons (pe_ix ix_str (pe_glob (v := .str " !\"#$ &'()*+,-./0123456789:;<=>?@ABCDEFGHIJKLMNOPQRSTUVWXYZ[\\]^_`abcdefghijklmnopqrstuvwxyz{|}~") (by rfl) T.c_CHARACTERS ⟨_, rfl⟩) (pv 5) (fun _ _ => rfl)) pa_nil))))))))
      (pss_one (ps_ret (pe_tup (pa_cons (pe_join pe_str (pv 3)) (pa_cons (pe_op op_add (pv 1) (pv 2)) pa_nil))))))), ?_⟩
    have hml : (bs.map V.int).length = bs.length := List.length_map _
    refine ⟨Nat.zero_le _, fun o ho => ?_⟩
    refine ⟨_, rfl, _, rfl, _, rfl, _, _, rfl, rfl, _, _, rfl, ⟨by omega, by omega, by omega, by omega⟩, ?_⟩
    refine for_range (lo := (i : Int)) (n := _) (fun t σ G => ∃ (acc : List Nat) (x4 x5 : Option V), σ = [some (.ref a), some (.int (i : Int)), some (.int (n : Int)), some (.ref o), x4, x5] ∧ Same H G ∧ G o = some (.lst ((acc.map fun c => (⟨#[c]⟩ : Str)).map V.str)) ∧ acc.length = t ∧ txF n (bs.drop i) [] = txF (n - t) (bs.drop (i + t)) acc)
      ⟨[], none, none, rfl, same_upd ho, upd_same, rfl, rfl⟩ ?_ ?_
    · rintro t σ G ht ⟨acc, x4, x5, rfl, s1, e1, hl, htx⟩
      have ht' : t < n := by omega
      refine ⟨_, rfl, _, rfl, a, _, rfl, .inl (s1.seq hS), _, _, rfl, rfl, _, rfl, ifd (fun hc => ?_) (fun hc => ?_)⟩
      · rw [hml] at hc
        have h2 : bs.drop (i + t) = [] := List.drop_of_length_le (by omega)
        rw [h2, show n - t = (n - t - 1) + 1 by omega] at htx
        exact qT htx _ s1
      · rw [hml] at hc
        have hlt : i + t < bs.length := by omega
        have hg : bs[i + t]? = some bs[i + t] := List.getElem?_eq_getElem hlt
        have hbb := hb _ (List.getElem_mem hlt)
        have hdr : bs.drop (i + t) = bs[i + t] :: bs.drop (i + (t + 1)) := List.drop_eq_getElem_cons hlt
        have ga : atI (bs.map V.int) ((i : Int) + (t : Int)) = some (.int bs[i + t]) := by
          have := at_map (f := V.int) hg
          rwa [Int.natCast_add] at this
        rw [hdr, show n - t = (n - t - 1) + 1 by omega] at htx
        generalize bs[i + t] = b at hg hbb htx ga hdr
        refine ⟨_, rfl, _, rfl, a, _, _, .int b, rfl, rfl, s1.seq hS, ga, ?_⟩
        dsimp only [gName, tNext, tSeq, tIfS]
        refine or_use (x := decide (95 ≤ b)) (y := decide (b = 5)) (fun R r => ⟨_, rfl, _, rfl, (show chS.length ≤ sizeLine from by rw [ch_len]; exact sz (by decide)), _, _, rfl, rfl, _, rfl, ?_⟩) (fun R r => ⟨_, rfl, rfl, _, rfl, ?_⟩) ?_
        · have e : ((Str.length chS : Nat) : Int) = 95 := by rw [ch_len]; rfl
          show R (decide (((Str.length chS : Nat) : Int) ≤ b)) G
          rw [e]
          exact r
        · by_cases e : b = 5
          · rw [decide_eq_true e] at r
            rw [decide_eq_true (congrArg V.int e)]
            exact r
          · rw [decide_eq_false e] at r
            rw [decide_eq_false (fun z => e (V.int.inj z))]
            exact r
        have hst : txF ((n - t - 1) + 1) (b :: bs.drop (i + (t + 1))) acc = if 95 ≤ b ∨ b = 5 then .malf else txF (n - t - 1) (bs.drop (i + (t + 1))) (acc ++ [(b + 32).toNat]) := rfl
        rw [hst] at htx
        refine ifb2 (fun hx => ?_) (fun hx => ?_)
        · rw [Bool.or_eq_true, decide_eq_true_eq, decide_eq_true_eq] at hx
          rw [if_pos hx] at htx
          exact qM htx _ s1
        · rw [Bool.or_eq_false_iff, decide_eq_false_iff_not, decide_eq_false_iff_not] at hx
          rw [if_neg (by omega)] at htx
          obtain ⟨j, rfl⟩ := Int.eq_ofNat_of_zero_le hbb.1
          have hat := ch_at j (by omega) (by omega)
          refine ⟨_, rfl, .inl ⟨rfl, _, sql e1⟩, _, rfl, _, _, j + 32, rfl, rfl, (show chS.length ≤ sizeLine from by rw [ch_len]; exact sz (by decide)), atI_nat hat, o, _, _, rfl, rfl, e1, szl (by rw [List.length_map, List.length_map]; omega), ?_⟩
          refine ⟨acc ++ [j + 32], _, _, rfl, same_put s1 ho, ?_, by rw [List.length_append, hl]; rfl, ?_⟩
          · rw [upd_same, List.map_append, List.map_append]
            rfl
          · rw [htx, show ((j : Int) + 32).toNat = j + 32 by omega, show n - (t + 1) = n - t - 1 by omega]
    · rintro σ G ⟨acc, x4, x5, rfl, s1, e1, hl, htx⟩
      have hnn : ((i : Int) + (n : Int) - (i : Int)).toNat = n := by omega
      rw [hnn] at hl htx
      have hok : txF n (bs.drop i) [] = .ok acc := by rw [htx, Nat.sub_self]; rfl
      refine ⟨⟨_, rfl⟩, _, rfl, "", o, acc.map fun c => (⟨#[c]⟩ : Str), rfl, rfl, .inl (sql e1), ?_, ?_⟩
      · rw [signs_len, List.length_map]
        show acc.length + acc.length * 0 ≤ _
        omega
      · rw [join_signs]
        exact ⟨_, rfl, _, rfl, _, _, rfl, rfl, (by show 2 ≤ sizeLine; decide), fun p hp => q acc hok p _ (s1.trans (same_upd hp)) (by rw [upd_same]; rfl)⟩
end
theorem Gives.mono {K : PySem.W.Frag} {cT cM : Addr} {i : Nat} {r : TR} {H G : Hp} {Q : VK} {E : XK} (s : Same H G) (h : Gives K cT cM i r H Q E) : Gives K cT cM i r G Q E := by
  cases r with
  | ok d k => exact fun p v H' s2 e hd => h p v H' (s.trans s2) e hd
  | trunc => exact fun H' s2 => h H' (s.trans s2)
  | malf => exact fun H' s2 => h H' (s.trans s2)
theorem Gives.shift {K : PySem.W.Frag} {cT cM : Addr} {i j : Nat} {r : TR} {H : Hp} {Q : VK} {E : XK} (h : Gives K cT cM i (r.shift j) H Q E) : Gives K cT cM (i + j) r H Q E := by
  cases r with
  | ok d k => exact fun p v H' s2 e hd => h p v H' s2 (by rw [e, show i + j + k = i + (k + j) by omega]) hd
  | trunc => exact h
  | malf => exact h
section
variable {P : Program} {w : World} {K : PySem.W.Frag} {mg : Str → Option Value} {base : Heap}
theorem step_tm (T : TX K mg) (m : Nat) (ih__take_value : FnOk P w K mg base (L2.CX P w) (2 * m + 3) T.a__take_value T.d__take_value ["row", "index", "depth"] (spTV K T.a_Truncated T.a_Malformed m)) : FnOk P w K mg base (L2.CX P w) (2 * m + 4) T.a__take_members T.d__take_members ["row", "index", "length", "depth"] (spTM K T.a_Truncated T.a_Malformed m) := by
  refine T.F__take_members.okX sc__take_members (fun vs H Q E h => ?_) (fun cdv A outer s H vs Q E hr h => ?_)
  · obtain ⟨a, bs, i, n, rfl, _⟩ := h
    rfl
  · obtain ⟨a, bs, i, n, rfl, hm, hS, hb, hi, hlen, hn, q⟩ := h
    refine ⟨_, (pss_cons (ps_set (i := 4) sc__take_members.nd rfl (Or.inl rfl) (pe_lst pa_nil))
      (pss_cons (ps_for (passes_of rfl) rfl (pi_range1 (by rfl) T.n_range (pa_cons (pv 2) pa_nil)) (pg_name (i := 5) sc__take_members.nd rfl (Or.inl rfl))
        (pss_cons (ps_asg (pe_call ih__take_value (hr.mono (by omega)) (by rfl) T.g__take_value T.F__take_value.kp T.b__take_value .nil (passes_call (takes_of rfl rfl rfl rfl) (fun _ _ _ _ h => h)) (pa_cons (pv 0) (pa_cons (pv 1) (pa_cons (pv 3) pa_nil)))) (pg_tup (by rfl) (pgs_cons (pg_name (i := 6) sc__take_members.nd rfl (Or.inl rfl)) (pgs_cons (pg_name (i := 1) sc__take_members.nd rfl (Or.inl rfl)) pgs_nil))))
        (pss_one (ps_expr (pe_bm PySem.F.plainAttrs_list PySem.F.slot_list_append PySem.F.type_list_append mt_append (pv 4) (pa_cons (pv 6) pa_nil))))))
      (pss_one (ps_ret (pe_tup (pa_cons (pe_callTy call_tuple_of (by rfl) T.n_tuple (by decide +kernel) (pa_cons (pv 4) pa_nil)) (pa_cons (pv 1) pa_nil))))))), ?_⟩
    refine ⟨Nat.zero_le _, fun o ho => ?_⟩
    refine ⟨_, rfl, _, rfl, by omega, by omega, ?_⟩
    refine for_range (lo := 0) (n := _) (fun t σ G => ∃ (ds : List PyData) (xs : List V) (c : Nat) (x5 x6 : Option V), σ = [some (.ref a), some (.int ((i + c : Nat) : Int)), some (.int (n : Int)), some (.int (20 - (m : Int))), some (.ref o), x5, x6] ∧ Same H G ∧ G o = some (.lst xs) ∧ xs.length = t ∧ (∀ G', Same H G' → (∀ b w, b ≠ o → G b = some w → G' b = some w) → DpAll K G' xs ds) ∧ i + c ≤ bs.length ∧ memF (tv m) n (bs.drop i) [] 0 = memF (tv m) (n - t) (bs.drop (i + c)) ds c)
      ⟨[], [], 0, none, none, rfl, same_upd ho, upd_same, rfl, fun _ _ _ => .nil, hi, rfl⟩ ?_ ?_
    · rintro t σ G ht ⟨ds, xs, c, x5, x6, rfl, s1, e1, hl, hall, hic, hmem⟩
      have ht' : t < n := by omega
      rw [show n - t = (n - t - 1) + 1 by omega] at hmem
      have hst : memF (tv m) ((n - t - 1) + 1) (bs.drop (i + c)) ds c = match tv m (bs.drop (i + c)) with
        | .ok d k => memF (tv m) (n - t - 1) ((bs.drop (i + c)).drop k) (ds ++ [d]) (c + k)
        | .trunc => .trunc
        | .malf => .malf := rfl
      rw [hst] at hmem
      refine ⟨_, rfl, _, rfl, _, rfl, a, bs, i + c, rfl, hm, s1.seq hS, hb, hic, hlen, ?_⟩
      cases e : tv m (bs.drop (i + c)) with
      | trunc =>
        rw [e] at hmem
        rw [hmem] at q
        exact fun H' s2 => q H' (s1.trans s2)
      | malf =>
        rw [e] at hmem
        rw [hmem] at q
        exact fun H' s2 => q H' (s1.trans s2)
      | ok d k =>
        rw [e] at hmem
        have hk := tv_len m _ d k e
        rw [List.length_drop] at hk
        intro p v G2 s2 ep hd
        have e2 := s2 _ _ e1
        refine ⟨p, _, rfl, sqt ep, rfl, ?_⟩
        refine ⟨v, _, rfl, _, _, rfl, rfl, ?_⟩
        refine ⟨_, rfl, .inl ⟨rfl, _, sql e2⟩, _, rfl, o, _, _, rfl, rfl, e2, szl (by omega), ?_⟩
        refine ⟨ds ++ [d], xs ++ [v], c + k, some (.int (0 + (t : Int))), some v, by rw [← Nat.add_assoc]; rfl, same_put (s1.trans s2) ho, upd_same, by rw [List.length_append, hl]; rfl, fun G' sG off => ?_, by omega, ?_⟩
        · have hoff : ∀ b w, b ≠ o → G2 b = some w → G' b = some w := fun b w nb h => off b w nb (by rw [upd_ne nb]; exact h)
          refine dpa_app (hall G' sG fun b w nb h => hoff b w nb (s2 _ _ h)) (.cons ?_ .nil)
          exact dp_off e2 hoff m d (tv_ok m _ d k (bytes_drop _ hb) e) hd
        · rw [hmem]
          dsimp only
          rw [List.drop_drop, show n - (t + 1) = n - t - 1 by omega, Nat.add_assoc]
    · rintro σ G ⟨ds, xs, c, x5, x6, rfl, s1, e1, hl, hall, hic, hmem⟩
      rw [Int.toNat_natCast, Nat.sub_self] at hmem
      have hok : memF (tv m) n (bs.drop i) [] 0 = .ok (.tuple ds) c := by rw [hmem]; rfl
      rw [hok] at q
      refine ⟨_, rfl, o, _, rfl, .inl ⟨sql e1, fun p1 hp1 => ?_⟩⟩
      have s2 := same_upd (o := .tup xs) hp1
      refine ⟨_, rfl, (by show 2 ≤ sizeLine; decide), fun p hp => ?_⟩
      have s3 := s2.trans (same_upd (o := .tup [.ref p1, .int ((i + c : Nat) : Int)]) hp)
      refine q p (.ref p1) _ (s1.trans s3) upd_same (.tup (sqt ?_) (hall _ (s1.trans s3) fun b w _ h => s3 _ _ h))
      rw [upd_ne (fun z => by rw [z, upd_same] at hp; cases hp), upd_same]
theorem step_tv (T : TX K mg) (m : Nat) (spm : Sp) (ih__take_members : FnOk P w K mg base (L2.CX P w) (2 * m + 2) T.a__take_members T.d__take_members ["row", "index", "length", "depth"] spm) (hs : ∀ j, m = j + 1 → spm = spTM K T.a_Truncated T.a_Malformed j) : FnOk P w K mg base (L2.CX P w) (2 * m + 3) T.a__take_value T.d__take_value ["row", "index", "depth"] (spTV K T.a_Truncated T.a_Malformed m) := by
  refine T.F__take_value.okX sc__take_value (fun vs H Q E h => ?_) (fun cdv A outer s H vs Q E hr h => ?_)
  · obtain ⟨a, bs, i, rfl, _⟩ := h
    rfl
  · obtain ⟨a, bs, i, rfl, hm, hS, hb, hi, hlen, q⟩ := h
    refine ⟨_, (pss_cons (ps_if (pt_cmpR op_ge (pv 1) (pe_callB call_len_seq (by rfl) T.n_len PySem.boot_len (pa_cons (pv 0) pa_nil)) (nomark _)) (pss_one (ps_raise rfl (takes_of rfl rfl rfl rfl) (pmk_own PySem.F.excBase_ValueError T.x_Truncated T.g_Truncated T.k_Truncated (raises_own T.s_Truncated T.t_Truncated) rfl))) pss_nil)
      (pss_cons (ps_set (i := 3) sc__take_value.nd rfl (Or.inl rfl) (pe_ix ix_list (pv 0) (pv 1) (fun _ _ => rfl)))
      (pss_cons (ps_if (pt_cmpR op_gt (pv 3) (pe_glob (v := .int 6) (by rfl) T.c_TUPLE_TAG ⟨_, rfl⟩) (nomark _)) (pss_one (ps_raise rfl (takes_of rfl rfl rfl rfl) (pmk_own PySem.F.excBase_ValueError T.x_Malformed T.g_Malformed T.k_Malformed (raises_own T.s_Malformed T.t_Malformed) rfl))) pss_nil)
      (pss_cons (ps_if (pt_cmpR op_le (pv 3) (pe_glob (v := .int 2) (by rfl) T.c_TRUE_TAG ⟨_, rfl⟩) (nomark _)) (pss_one (ps_ret (pe_tup (pa_cons (pe_ix ix_tup (pe_glob (v := .ref T.ca_CONSTANTS) (by rfl) T.c_CONSTANTS rfl) (pv 3) (fun _ _ => rfl)) (pa_cons (pe_op op_add (pv 1) pe_int) pa_nil))))) pss_nil)
      (pss_cons (ps_if (PW.pt (pw_and (pt_cmpR op_eq (pv 3) (pe_glob (v := .int 6) (by rfl) T.c_TUPLE_TAG ⟨_, rfl⟩) (nomark _)) (pw_and1 (pt_cmpR op_eq (pv 2) (pe_glob (v := .int 20) (by rfl) T.c_MOST_DEPTH ⟨_, rfl⟩) (nomark _))))) (pss_one (ps_raise rfl (takes_of rfl rfl rfl rfl) (pmk_own PySem.F.excBase_ValueError T.x_Malformed T.g_Malformed T.k_Malformed (raises_own T.s_Malformed T.t_Malformed) rfl))) pss_nil)
      (pss_cons (ps_asg (pe_call (ok_take_number T) (hr.mono (by omega)) (by rfl) T.g_take_number T.F_take_number.kp T.b_take_number .nil (passes_call (takes_of rfl rfl rfl rfl) (fun _ _ _ _ h => h)) (pa_cons (pv 0) (pa_cons (pe_op op_add (pv 1) pe_int) pa_nil))) (pg_tup (by rfl) (pgs_cons (pg_name (i := 4) sc__take_value.nd rfl (Or.inl rfl)) (pgs_cons (pg_name (i := 5) sc__take_value.nd rfl (Or.inl rfl)) pgs_nil))))
      (pss_cons (ps_if (pt_cmpR op_eq (pv 3) (pe_glob (v := .int 3) (by rfl) T.c_NATURAL_TAG ⟨_, rfl⟩) (nomark _)) (pss_one (ps_ret (pe_tup (pa_cons (pe_call (ok__checked_integer T) (hr.mono (by omega)) (by rfl) T.g__checked_integer T.F__checked_integer.kp T.b__checked_integer .nil (passes_call (takes_of rfl rfl rfl rfl) (fun _ _ _ _ h => h)) (pa_cons (pv 4) pa_nil)) (pa_cons (pv 5) pa_nil))))) pss_nil)
      (pss_cons (ps_if (pt_cmpR op_eq (pv 3) (pe_glob (v := .int 4) (by rfl) T.c_NEGATIVE_TAG ⟨_, rfl⟩) (nomark _)) (pss_one (ps_ret (pe_tup (pa_cons (pe_call (ok__checked_integer T) (hr.mono (by omega)) (by rfl) T.g__checked_integer T.F__checked_integer.kp T.b__checked_integer .nil (passes_call (takes_of rfl rfl rfl rfl) (fun _ _ _ _ h => h)) (pa_cons (pe_op op_sub (pe_un un_neg pe_int) (pv 4)) pa_nil)) (pa_cons (pv 5) pa_nil))))) pss_nil)
      (pss_cons (ps_if (pt_cmpR op_gt (pv 4) (pe_glob (v := .int 60000) (by rfl) T.c_MOST_LENGTH ⟨_, rfl⟩) (nomark _)) (pss_one (ps_raise rfl (takes_of rfl rfl rfl rfl) (pmk_own PySem.F.excBase_ValueError T.x_Malformed T.g_Malformed T.k_Malformed (raises_own T.s_Malformed T.t_Malformed) rfl))) pss_nil)
      (pss_cons (ps_if (pt_cmpR op_eq (pv 3) (pe_glob (v := .int 5) (by rfl) T.c_TEXT_TAG ⟨_, rfl⟩) (nomark _)) (pss_one (ps_ret (pe_call (ok__take_text T) (hr.mono (by omega)) (by rfl) T.g__take_text T.F__take_text.kp T.b__take_text .nil (passes_call (takes_of rfl rfl rfl rfl) (fun _ _ _ _ h => h)) (pa_cons (pv 0) (pa_cons (pv 5) (pa_cons (pv 4) pa_nil)))))) pss_nil)
      (pss_one (ps_ret (pe_call ih__take_members (hr.mono (by omega)) (by rfl) T.g__take_members T.F__take_members.kp T.b__take_members .nil (passes_call (takes_of rfl rfl rfl rfl) (fun _ _ _ _ h => h)) (pa_cons (pv 0) (pa_cons (pv 5) (pa_cons (pv 4) (pa_cons (pe_op op_add (pv 2) pe_int) pa_nil))))))))))))))))), ?_⟩
    have hml : (bs.map V.int).length = bs.length := List.length_map _
    obtain ⟨mm, hmm⟩ : ∃ mm, mm = (match m with | 0 => none | j + 1 => some (tv j)) := ⟨_, rfl⟩
    have htv : ∀ l, tv m l = tvB mm l := fun l => by
      cases m with
      | zero => rw [hmm]; rfl
      | succ j => rw [hmm]; rfl
    rw [htv] at q
    refine ⟨_, rfl, _, rfl, a, _, rfl, .inl hS, _, _, rfl, rfl, _, rfl, ifd (fun hc => ?_) (fun hc => ?_)⟩
    · rw [hml] at hc
      rw [List.drop_of_length_le (by omega)] at q
      exact q _ (Same.refl _)
    rw [hml] at hc
    have hlt : i < bs.length := by omega
    have hg : bs[i]? = some bs[i] := List.getElem?_eq_getElem hlt
    have hbb := hb _ (List.getElem_mem hlt)
    have hdr : bs.drop i = bs[i] :: bs.drop (i + 1) := List.drop_eq_getElem_cons hlt
    have ga : atI (bs.map V.int) (i : Int) = some (.int bs[i]) := at_map (f := V.int) hg
    rw [hdr] at q
    generalize bs[i] = t at hg hbb q ga hdr
    have q : Gives K T.a_Truncated T.a_Malformed i (tvC mm t (bs.drop (i + 1))) H Q E := q
    unfold tvC at q
    refine ⟨_, rfl, _, rfl, a, _, _, .int t, rfl, rfl, hS, ga, ?_⟩
    refine ⟨_, rfl, _, _, rfl, rfl, _, rfl, ifd (fun h6 => ?_) (fun h6 => ?_)⟩
    · rw [if_pos h6] at q
      exact q _ (Same.refl _)
    rw [if_neg h6] at q
    refine ⟨_, rfl, _, _, rfl, rfl, _, rfl, ifd (fun h2 => ?_) (fun h2 => ?_)⟩
    · rw [if_pos h2] at q
      obtain ⟨x, hx, hxd⟩ : ∃ x, atI [V.non, V.bl false, V.bl true] t = some x ∧ ∀ G, Dp K G x (constD t) := by
        have h3 : t = 0 ∨ t = 1 ∨ t = 2 := by omega
        rcases h3 with rfl | rfl | rfl
        · exact ⟨.non, rfl, fun _ => .non⟩
        · exact ⟨.bl false, rfl, fun _ => .bl false⟩
        · exact ⟨.bl true, rfl, fun _ => .bl true⟩
      refine ⟨_, rfl, T.ca_CONSTANTS, _, t, x, rfl, rfl, T.q_CONSTANTS _, hx, _, rfl, _, _, rfl, rfl, (by show 2 ≤ sizeLine; decide), fun p hp => q p x _ (same_upd hp) ?_ (hxd _)⟩
      rw [upd_same]; rfl
    rw [if_neg h2] at q
    dsimp only [gName, tNext, tSeq, tIfS]
    refine and_use (x := decide (t = 6)) (y := decide (m = 0)) (fun R r => ⟨_, rfl, rfl, _, rfl, ?_⟩) (fun R r => ⟨_, rfl, rfl, _, rfl, ?_⟩) ?_
    · by_cases e : t = 6
      · rw [decide_eq_true e] at r
        rw [decide_eq_true (congrArg V.int e)]
        exact r
      · rw [decide_eq_false e] at r
        rw [decide_eq_false (fun z => e (V.int.inj z))]
        exact r
    · by_cases e : m = 0
      · rw [decide_eq_true e] at r
        rw [decide_eq_true (by rw [e]; rfl)]
        exact r
      · rw [decide_eq_false e] at r
        rw [decide_eq_false (fun z => e (by have := V.int.inj z; omega))]
        exact r
    have hmn : mm.isNone = decide (m = 0) := by
      cases m with
      | zero => rw [hmm]; rfl
      | succ j => rw [hmm]; simp
    refine ifb2 (fun hx => ?_) (fun hx => ?_)
    · rw [Bool.and_eq_true, decide_eq_true_eq] at hx
      rw [if_pos ⟨hx.1, by rw [hmn]; exact hx.2⟩] at q
      exact q _ (Same.refl _)
    have hno : ¬ (t = 6 ∧ mm.isNone = true) := fun z => by
      rw [hmn] at z
      rw [Bool.and_eq_false_iff, decide_eq_false_iff_not] at hx
      rcases hx with y | y
      · exact y z.1
      · rw [y] at z; cases z.2
    rw [if_neg hno] at q
    have hbr := bytes_drop (i + 1) hb
    refine ⟨_, rfl, _, rfl, _, _, rfl, rfl, a, bs, i + 1, rfl, hS, hb, hlt, hlen, fun n c e p G hp s1 ep => ?_, fun e => ?_, fun e => ?_⟩
    · rw [e] at q
      have hn := rdGo_nn 500 0 0 _ n c hbr (by decide) e
      have hc2 := (rdGo_len 500 0 0 _ n c e).1
      rw [List.length_drop] at hc2
      obtain ⟨n, rfl⟩ := Int.eq_ofNat_of_zero_le hn
      dsimp only at q
      rw [Int.toNat_natCast] at q
      have hS1 := s1.seq hS
      refine ⟨p, _, rfl, sqt ep, rfl, _, _, rfl, _, _, rfl, rfl, ?_⟩
      have hix : ∀ j : Nat, ((i + 1 + c + j : Nat) : Int) = ((i + (1 + c + j) : Nat) : Int) := fun j => by omega
      refine ⟨_, rfl, rfl, _, rfl, ifd (fun h3 => ?_) (fun h3 => ?_)⟩
      · rw [if_pos (V.int.inj h3)] at q
        unfold chkI at q
        refine ⟨_, rfl, (n : Int), rfl, fun hbo => ?_, fun hbo => ?_⟩
        · rw [if_pos hbo] at q
          refine ⟨_, rfl, (by show 2 ≤ sizeLine; decide), fun p hp => q p (.int n) _ (s1.trans (same_upd hp)) ?_ (.int n)⟩
          rw [upd_same, show i + 1 + c = i + (1 + c) by omega]
        · rw [if_neg (by rw [hbo]; decide)] at q
          exact q _ s1
      rw [if_neg (fun z => h3 (congrArg V.int z))] at q
      refine ⟨_, rfl, rfl, _, rfl, ifd (fun h4 => ?_) (fun h4 => ?_)⟩
      · rw [if_pos (V.int.inj h4)] at q
        unfold chkI at q
        refine ⟨_, rfl, _, rfl, _, _, rfl, rfl, -1 - (n : Int), rfl, fun hbo => ?_, fun hbo => ?_⟩
        · rw [if_pos hbo] at q
          refine ⟨_, rfl, (by show 2 ≤ sizeLine; decide), fun p hp => q p (.int (-1 - (n : Int))) _ (s1.trans (same_upd hp)) ?_ (.int _)⟩
          rw [upd_same, show i + 1 + c = i + (1 + c) by omega]
        · rw [if_neg (by rw [hbo]; decide)] at q
          exact q _ s1
      rw [if_neg (fun z => h4 (congrArg V.int z))] at q
      refine ⟨_, rfl, _, _, rfl, rfl, _, rfl, ifd (fun h60 => ?_) (fun h60 => ?_)⟩
      · rw [if_pos h60] at q
        exact q _ s1
      rw [if_neg h60] at q
      refine ⟨_, rfl, rfl, _, rfl, ifd (fun h5 => ?_) (fun h5 => ?_)⟩
      · rw [if_pos (V.int.inj h5)] at q
        refine ⟨_, rfl, _, rfl, _, rfl, a, bs, i + 1 + c, n, rfl, hS1, hb, by omega, hlen, by omega, fun cs e2 p2 G2 s2 ep2 => ?_, fun e2 G2 s2 => ?_, fun e2 G2 s2 => ?_⟩
        · rw [List.drop_drop, e2] at q
          exact q p2 _ G2 (s1.trans s2) (by rw [ep2, hix]) (.str _)
        · rw [List.drop_drop, e2] at q
          exact q G2 (s1.trans s2)
        · rw [List.drop_drop, e2] at q
          exact q G2 (s1.trans s2)
      rw [if_neg (fun z => h5 (congrArg V.int z))] at q
      have ht6 : t = 6 := by
        have h7 : ¬ V.int t = V.int 3 := h3
        have h8 : t ≠ 3 := fun z => h3 (congrArg V.int z)
        have h9 : t ≠ 4 := fun z => h4 (congrArg V.int z)
        have h10 : t ≠ 5 := fun z => h5 (congrArg V.int z)
        omega
      cases m with
      | zero => exact absurd ⟨ht6, by rw [hmm]; rfl⟩ hno
      | succ j =>
        have hsp := hs j rfl
        subst hsp
        rw [hmm] at q
        unfold tvM at q
        dsimp only at q
        refine ⟨_, rfl, _, rfl, _, rfl, _, rfl, _, _, rfl, rfl, a, bs, i + 1 + c, n, ?_, by omega, hS1, hb, by omega, hlen, by omega, ?_⟩
        · have : (20 : Int) - ((j + 1 : Nat) : Int) + 1 = 20 - (j : Int) := by omega
          exact congrArg (fun z => [V.ref a, V.int ((i + 1 + c : Nat) : Int), V.int (n : Int), V.int z]) this
        · rw [show (1 + c : Nat) = 0 + (1 + c) by omega, memF_shift, List.drop_drop] at q
          rw [show i + 1 + c = i + (1 + c) by omega] at q ⊢
          exact (Gives.shift q).mono s1
    · rw [e] at q
      exact q _ (Same.refl _)
    · rw [e] at q
      exact q _ (Same.refl _)
/-- nothing is asked: any def keeps that -/
theorem tvn (T : TX K mg) : ∀ m : Nat, FnOk P w K mg base (L2.CX P w) (2 * m + 3) T.a__take_value T.d__take_value ["row", "index", "depth"] (spTV K T.a_Truncated T.a_Malformed m)
  | 0 => step_tv T 0 (fun _ _ _ _ => False) (T.F__take_members.okX sc__take_members (fun vs H Q E h => h.elim) (fun cdv A outer s H vs Q E hr h => h.elim)) (fun j h => by cases h)
  | m + 1 => step_tv T (m + 1) (spTM K T.a_Truncated T.a_Malformed m) (step_tm T m (tvn T m)) (fun j h => by injection h with h; rw [h])
theorem ok__take_value (T : TX K mg) : FnOk P w K mg base (L2.CX P w) (43) T.a__take_value T.d__take_value ["row", "index", "depth"] (spTV K T.a_Truncated T.a_Malformed 20) := tvn T 20
def sp_unpack (K : PySem.W.Frag) (cT cM : Addr) : Sp := fun vs H Q E => ∃ (a : Addr) (bs : List Int), vs = [.ref a] ∧ SqL K H a (bs.map V.int) ∧ Bytes bs ∧ bs.length ≤ 90000 ∧
  (match tv 20 bs with
    | .ok d k => if k < bs.length then ∀ H', Same H H' → E (.ref cM) none H' else ∀ v H', Same H H' → Dp K H' v d → Q v H'
    | .trunc => ∀ H', Same H H' → E (.ref cT) none H'
    | .malf => ∀ H', Same H H' → E (.ref cM) none H')
theorem ok_unpack (T : TX K mg) : FnOk P w K mg base (L2.CX P w) 44 T.a_unpack T.d_unpack ["row"] (sp_unpack K T.a_Truncated T.a_Malformed) := by
  refine T.F_unpack.okX sc_unpack (fun vs H Q E h => ?_) (fun cdv A outer s H vs Q E hr h => ?_)
  · obtain ⟨a, bs, rfl, _⟩ := h
    rfl
  · obtain ⟨a, bs, rfl, hS, hb, hlen, q⟩ := h
    refine ⟨_, (pss_cons (ps_asg (pe_call (ok__take_value T) (hr.mono (by decide)) (by rfl) T.g__take_value T.F__take_value.kp T.b__take_value .nil (passes_call (takes_of rfl rfl rfl rfl) (fun _ _ _ _ h => h)) (pa_cons (pv 0) (pa_cons pe_int (pa_cons pe_int pa_nil)))) (pg_tup (by rfl) (pgs_cons (pg_name (i := 1) sc_unpack.nd rfl (Or.inl rfl)) (pgs_cons (pg_name (i := 2) sc_unpack.nd rfl (Or.inl rfl)) pgs_nil))))
      (pss_cons (ps_if (pt_cmpR op_lt (pv 2) (pe_callB call_len_seq (by rfl) T.n_len PySem.boot_len (pa_cons (pv 0) pa_nil)) (nomark _)) (pss_one (ps_raise rfl (takes_of rfl rfl rfl rfl) (pmk_own PySem.F.excBase_ValueError T.x_Malformed T.g_Malformed T.k_Malformed (raises_own T.s_Malformed T.t_Malformed) rfl))) pss_nil)
      (pss_one (ps_ret (pv 1))))), ?_⟩
    refine ⟨_, rfl, a, bs, 0, rfl, by decide, hS, hb, Nat.zero_le _, hlen, ?_⟩
    rw [List.drop_zero]
    cases e : tv 20 bs with
    | trunc =>
      rw [e] at q
      exact q
    | malf =>
      rw [e] at q
      exact q
    | ok d k =>
      rw [e] at q
      dsimp only at q
      intro p v G s1 ep hd
      rw [Nat.zero_add] at ep
      have hml : (bs.map V.int).length = bs.length := List.length_map _
      refine ⟨p, _, rfl, sqt ep, rfl, v, _, rfl, _, _, rfl, rfl, ?_⟩
      refine ⟨_, rfl, _, rfl, a, _, rfl, .inl (s1.seq hS), _, _, rfl, rfl, _, rfl, ifd (fun hc => ?_) (fun hc => ?_)⟩
      · rw [hml] at hc
        rw [if_pos (by omega)] at q
        exact q _ s1
      · rw [hml] at hc
        rw [if_neg (by omega)] at q
        exact ⟨_, rfl, q v G s1 hd⟩
end
theorem rd_put {n : Nat} (h : n < Lim) (rest : List Int) : rd (enc n ++ rest) = .num n (enc n).length := by
  have := rd_enc n 500 0 0 rest (enc_lim h) (.inl rfl)
  unfold rd
  rw [this, Nat.zero_add]
  congr 1
  rw [Int.pow_zero]
  omega
theorem tx_put : ∀ (cs acc : List Nat) (rest : List Int), (∀ c ∈ cs, plainC c = true) → txF cs.length ((cs.map fun (c : Nat) => (c : Int) - 32) ++ rest) acc = .ok (acc ++ cs)
  | [], acc, _, _ => by rw [List.append_nil]; rfl
  | c :: cs, acc, rest, h => by
    have hc := h c List.mem_cons_self
    unfold plainC at hc
    simp only [Bool.not_eq_true', Bool.or_eq_false_iff, decide_eq_false_iff_not] at hc
    show (if 95 ≤ (c : Int) - 32 ∨ (c : Int) - 32 = 5 then .malf else txF cs.length ((cs.map fun (c : Nat) => (c : Int) - 32) ++ rest) (acc ++ [((c : Int) - 32 + 32).toNat])) = T3.ok (acc ++ (c :: cs))
    rw [if_neg (by omega), show ((c : Int) - 32 + 32).toNat = c by omega, tx_put cs _ rest fun x hx => h x (List.mem_cons_of_mem _ hx), List.append_assoc]
    rfl
theorem intBits_int {i : Int} : bitsOk i = true → i.natAbs < Lim := fun h => bits_lt (by unfold bitsOk at h; have := of_decide_eq_true h; omega)
theorem tvB_tag {mm : Option (List Int → TR)} {t : Int} {n : Nat} {rest : List Int} (h : 2 < t) (h6 : t ≤ 6) (hn : n < Lim) (hm : t = 6 → mm.isNone = false) : tvC mm t (enc n ++ rest) = if t = 3 then chkI n (1 + (enc n).length) else if t = 4 then chkI (-1 - (n : Int)) (1 + (enc n).length) else if 60000 < (n : Int) then .malf
      else if t = 5 then tvT (txF n rest []) (1 + (enc n).length + n)
      else tvM mm n rest (1 + (enc n).length) := by
  unfold tvC
  rw [if_neg (by omega), if_neg (by omega), if_neg (fun z => by rw [hm z.1] at z; cases z.2), rd_put hn]
  dsimp only
  rw [Int.toNat_natCast, List.drop_left]
mutual
theorem tv_pk : ∀ (m : Nat) (d : PyData) (rest : List Int), okV m d = true → tv m (pkL d ++ rest) = .ok d (pkL d).length
  | m, .none, rest, _ => by cases m <;> (simp only [pkL]; rfl)
  | m, .bool b, rest, _ => by cases m <;> cases b <;> (simp only [pkL]; rfl)
  | m, .int i, rest, h => by
    have hb : bitsOk i = true := by cases m <;> simpa [okV] using h
    have hl := intBits_int hb
    have htv : ∀ l, tv m l = tvB (match m with | 0 => none | j + 1 => some (tv j)) l := fun l => by cases m <;> rfl
    rw [htv]
    by_cases hn : i < 0
    · have e : pkL (.int i) = 4 :: enc (-1 - i).toNat := by simp [pkL, hn]
      rw [e]
      show tvC _ 4 (enc (-1 - i).toNat ++ rest) = _
      rw [tvB_tag (by decide) (by decide) (by omega) (fun z => by cases z), if_neg (by decide), if_pos rfl]
      unfold chkI
      rw [show (-1 - ((-1 - i).toNat : Int)) = i by omega, if_pos hb, List.length_cons, Nat.add_comm]
    · have e : pkL (.int i) = 3 :: enc i.toNat := by simp [pkL, hn]
      rw [e]
      show tvC _ 3 (enc i.toNat ++ rest) = _
      rw [tvB_tag (by decide) (by decide) (by omega) (fun z => by cases z), if_pos rfl]
      unfold chkI
      rw [show ((i.toNat : Nat) : Int) = i by omega, if_pos hb, List.length_cons, Nat.add_comm]
  | m, .str x, rest, h => by
    rw [okV_str, Bool.and_eq_true, decide_eq_true_eq] at h
    have htv : ∀ l, tv m l = tvB (match m with | 0 => none | j + 1 => some (tv j)) l := fun l => by cases m <;> rfl
    rw [htv]
    have e : pkL (.str x) = 5 :: (enc x.length ++ x.cps.toList.map fun (c : Nat) => (c : Int) - 32) := by simp [pkL]
    rw [e]
    show tvC _ 5 ((enc x.length ++ x.cps.toList.map fun (c : Nat) => (c : Int) - 32) ++ rest) = _
    rw [List.append_assoc, tvB_tag (by decide) (by decide) (enc_small_lim (by omega)) (fun z => by cases z), if_neg (by decide), if_neg (by decide), if_neg (by omega), if_pos rfl]
    have ht := tx_put x.cps.toList [] rest (List.all_eq_true.mp h.2)
    rw [← zlen] at ht
    rw [ht]
    unfold tvT
    dsimp only
    rw [List.nil_append]
    congr 1
    simp only [List.length_cons, List.length_append, List.length_map, ← zlen]
    omega
  | 0, .tuple ds, rest, h => by rw [okV_tup0] at h; cases h
  | m + 1, .tuple ds, rest, h => by
    rw [okV_tup, Bool.and_eq_true, decide_eq_true_eq] at h
    have e : pkL (.tuple ds) = 6 :: (enc ds.length ++ pkA ds) := by simp [pkL]
    rw [e]
    show tvC (some (tv m)) 6 ((enc ds.length ++ pkA ds) ++ rest) = _
    rw [List.append_assoc, tvB_tag (by decide) (by decide) (enc_small_lim (by omega)) (fun z => rfl), if_neg (by decide), if_neg (by decide), if_neg (by omega), if_neg (by decide)]
    unfold tvM
    dsimp only
    rw [mem_pk m ds [] rest _ h.2]
    simp only [List.length_cons, List.length_append, List.nil_append]
    congr 1
    omega
  | _, .list ds, _, h => by rw [okV_lst] at h; cases h
  | m, .dict ds, _, h => by cases m <;> simp [okV] at h
theorem mem_pk : ∀ (m : Nat) (ds acc : List PyData) (rest : List Int) (c : Nat), okA m ds = true → memF (tv m) ds.length (pkA ds ++ rest) acc c = .ok (.tuple (acc ++ ds)) (c + (pkA ds).length)
  | m, [], acc, rest, c, _ => by rw [List.append_nil]; rfl
  | m, d :: ds, acc, rest, c, h => by
    simp only [okA, Bool.and_eq_true] at h
    have e : pkA (d :: ds) = pkL d ++ pkA ds := by simp [pkA]
    rw [e, List.append_assoc]
    show (match tv m (pkL d ++ (pkA ds ++ rest)) with
      | .ok d2 k => memF (tv m) ds.length ((pkL d ++ (pkA ds ++ rest)).drop k) (acc ++ [d2]) (c + k)
      | .trunc => .trunc
      | .malf => .malf) = _
    rw [tv_pk m d _ h.1]
    dsimp only
    rw [List.drop_left, mem_pk m ds _ rest _ h.2, List.append_assoc, List.length_append, Nat.add_assoc]
    rfl
end
theorem bits_mono (x : Str) (h : plainS x = true) : ∀ b ∈ (x.cps.toList.map fun (c : Nat) => (c : Int) - 32), 0 ≤ b ∧ b < 256 := fun b hb => by
  obtain ⟨c, hc, rfl⟩ := List.mem_map.mp hb
  have := List.all_eq_true.mp h c hc
  unfold plainC at this
  simp only [Bool.not_eq_true', Bool.or_eq_false_iff, decide_eq_false_iff_not] at this
  omega
theorem bytes_app {a b : List Int} (h : Bytes a) (g : Bytes b) : Bytes (a ++ b) := fun x hx => (List.mem_append.mp hx).elim (h x) (g x)
theorem bytes_cons {x : Int} {a : List Int} (h : 0 ≤ x ∧ x < 256) (g : Bytes a) : Bytes (x :: a) := fun y hy => (List.mem_cons.mp hy).elim (fun z => by rw [z]; exact h) (g y)
mutual
theorem pk_bytes : ∀ (m : Nat) (d : PyData), okV m d = true → Bytes (pkL d)
  | _, .none, _ => by simp only [pkL]; exact bytes_cons (by decide) (fun _ z => by cases z)
  | _, .bool b, _ => by cases b <;> (simp only [pkL]; exact bytes_cons (by decide) (fun _ z => by cases z))
  | _, .int i, _ => by
    by_cases hn : i < 0
    · rw [show pkL (.int i) = 4 :: enc (-1 - i).toNat by simp [pkL, hn]]
      exact bytes_cons (by decide) (enc_bytes _)
    · rw [show pkL (.int i) = 3 :: enc i.toNat by simp [pkL, hn]]
      exact bytes_cons (by decide) (enc_bytes _)
  | m, .str x, h => by
    rw [okV_str, Bool.and_eq_true] at h
    rw [show pkL (.str x) = 5 :: (enc x.length ++ x.cps.toList.map fun (c : Nat) => (c : Int) - 32) by simp [pkL]]
    exact bytes_cons (by decide) (bytes_app (enc_bytes _) (bits_mono x h.2))
  | 0, .tuple ds, h => by rw [okV_tup0] at h; cases h
  | m + 1, .tuple ds, h => by
    rw [okV_tup, Bool.and_eq_true] at h
    rw [show pkL (.tuple ds) = 6 :: (enc ds.length ++ pkA ds) by simp [pkL]]
    exact bytes_cons (by decide) (bytes_app (enc_bytes _) (pkA_bytes m ds h.2))
  | _, .list ds, h => by rw [okV_lst] at h; cases h
  | m, .dict ds, h => by cases m <;> simp [okV] at h
theorem pkA_bytes : ∀ (m : Nat) (ds : List PyData), okA m ds = true → Bytes (pkA ds)
  | _, [], _ => fun _ z => by cases z
  | m, d :: ds, h => by
    simp only [okA, Bool.and_eq_true] at h
    rw [show pkA (d :: ds) = pkL d ++ pkA ds by simp [pkA]]
    exact bytes_app (pk_bytes m d h.1) (pkA_bytes m ds h.2)
end
/-! the draws of a script: many numbers from 0 to 996 -/
def Drawn (ds : List Int) : Prop := ∀ d ∈ ds, 0 ≤ d ∧ d < 997
theorem drawn_app {ds es : List Int} (h : Drawn ds) (g : Drawn es) : Drawn (ds ++ es) := fun d hd => (List.mem_append.mp hd).elim (h d) (g d)
theorem drawn_one {d : Int} (h : 0 ≤ d) (g : d < 997) : Drawn [d] := fun e he => by rw [List.mem_singleton] at he; subst he; exact ⟨h, g⟩
theorem drawn_take {ds : List Int} (n : Nat) (h : Drawn ds) : Drawn (ds.take n) := fun d hd => h d (List.mem_of_mem_take hd)
def sp_draws (K : PySem.W.Frag) : Sp := fun vs H Q _ => ∃ (a : Addr) (ns : List Int) (many : Nat), vs = [.ref a, .int (many : Int)] ∧ SqL K H a (ns.map V.int) ∧ ns.length ≤ 63 ∧ many ≤ 1000 ∧
  ∀ (p : Addr) (H' : Hp) (ds : List Int), H p = none → Same H H' → H' p = some (.lst (ds.map V.int)) → Drawn ds → ds.length = many → Q (.ref p) H'
section
variable {P : Program} {w : World} {K : PySem.W.Frag} {mg : Str → Option Value} {base : Heap}
theorem ok__law_draws (T : TX K mg) : FnOk P w K mg base CX0 1 T.a__law_draws T.d__law_draws ["script", "many"] (sp_draws K) := by
  refine T.F__law_draws.ok sc__law_draws (fun vs H Q E h => ?_) (fun cdv A outer s H vs Q E hr h => ?_)
  · obtain ⟨a, ns, many, rfl, _⟩ := h
    rfl
  · obtain ⟨a, ns, many, rfl, hS, hlen, hm, q⟩ := h
    refine ⟨_, (pss_cons (ps_set (i := 2) sc__law_draws.nd rfl (Or.inl rfl) (pe_lst pa_nil))
      (pss_cons (ps_set (i := 3) sc__law_draws.nd rfl (Or.inl rfl) pe_int)
      (pss_cons (ps_for PassesOwn.never rfl (pi_range1 (by rfl) T.n_range (pa_cons (pe_callB call_len_seq (by rfl) T.n_len PySem.boot_len (pa_cons (pv 0) pa_nil)) pa_nil)) (pg_name (i := 4) sc__law_draws.nd rfl (Or.inl rfl))
        (pss_cons (ps_set (i := 5) sc__law_draws.nd rfl (Or.inl rfl) (pe_callB call_abs (by rfl) T.n_abs (by decide +kernel) (pa_cons (pe_callTy call_int1 (by rfl) T.n_int (by decide +kernel) (pa_cons (pe_ix ix_list (pv 0) (pv 4) (fun _ _ => rfl)) pa_nil)) pa_nil)))
        (pss_cons (ps_set (i := 3) sc__law_draws.nd rfl (Or.inl rfl) (pe_op op_mod (pe_callTy call_int1 (by rfl) T.n_int (by decide +kernel) (pa_cons (pe_op op_add (pe_op op_add (pe_op op_mul (pv 3) pe_int) (pe_op op_mod (pv 5) pe_int)) (pv 4)) pa_nil)) pe_int))
        (pss_cons (ps_set (i := 6) sc__law_draws.nd rfl (Or.inl rfl) pe_int)
        (C8.pss_cut (ps_if (pt_cmpR op_ge (pv 5) (pe_op op_pow pe_int pe_int) (nomark _)) (pss_one (ps_set (i := 6) sc__law_draws.nd rfl (Or.inl rfl) (pv 5))) (pss_cons (ps_expr (pe_bm PySem.F.plainAttrs_list PySem.F.slot_list_append PySem.F.type_list_append mt_append (pv 2) (pa_cons (pe_op op_mod (pv 5) pe_int) pa_nil)))
          (pss_one (ps_expr (pe_bm PySem.F.plainAttrs_list PySem.F.slot_list_append PySem.F.type_list_append mt_append (pv 2) (pa_cons (pe_op op_mod (pe_op op_mod (pe_callTy call_int1 (by rfl) T.n_int (by decide +kernel) (pa_cons (pe_op op_add (pe_op op_mul (pv 3) pe_int) pe_int) pa_nil)) pe_int) pe_int) pa_nil))))))
        (pss_one (ps_for PassesOwn.never rfl (pi_range1 (by rfl) T.n_range (pa_cons pe_int pa_nil)) (pg_name (i := 7) sc__law_draws.nd rfl (Or.inl rfl))
          (pss_one (ps_if (pt_cmpR op_gt (pv 6) pe_int (nomark _)) (pss_cons (ps_expr (pe_bm PySem.F.plainAttrs_list PySem.F.slot_list_append PySem.F.type_list_append mt_append (pv 2) (pa_cons (pe_op op_mod (pe_callTy call_int1 (by rfl) T.n_int (by decide +kernel) (pa_cons (pv 6) pa_nil)) pe_int) pa_nil)))
            (pss_one (ps_set (i := 6) sc__law_draws.nd rfl (Or.inl rfl) (pe_op op_fdiv (pv 6) pe_int)))) pss_nil)))))))))
      (pss_cons (ps_for PassesOwn.never rfl (pi_range1 (by rfl) T.n_range (pa_cons (pv 1) pa_nil)) (pg_name (i := 4) sc__law_draws.nd rfl (Or.inl rfl))
        (pss_cons (ps_set (i := 3) sc__law_draws.nd rfl (Or.inl rfl) (pe_op op_mod (pe_callTy call_int1 (by rfl) T.n_int (by decide +kernel) (pa_cons (pe_op op_add (pe_op op_add (pe_op op_mul (pv 3) pe_int) (pv 4)) pe_int) pa_nil)) pe_int))
        (pss_one (ps_expr (pe_bm PySem.F.plainAttrs_list PySem.F.slot_list_append PySem.F.type_list_append mt_append (pv 2) (pa_cons (pe_op op_mod (pe_callTy call_int1 (by rfl) T.n_int (by decide +kernel) (pa_cons (pv 3) pa_nil)) pe_int) pa_nil))))))
      (pss_one (ps_ret (pe_slice sl_list (pv 2) po_none (po_some (pv 1))))))))), ?_⟩
    refine ⟨Nat.zero_le _, fun o ho => ?_⟩
    have s1 := same_upd (o := .lst []) ho
    -- each cell
    refine ⟨_, rfl, a, _, rfl, .inl (s1.seq hS), _, rfl, by rw [List.length_map]; omega, by rw [List.length_map]; omega, for_range (lo := 0) (n := _) (fun i σ H2 => ∃ (ds : List Int) (mx : Int) (x4 x5 x6 x7 : Option V), σ = [some (.ref a), some (.int (many : Int)), some (.ref o), some (.int mx), x4, x5, x6, x7] ∧ Same H H2 ∧ H2 o = some (.lst (ds.map V.int)) ∧ Drawn ds ∧ ds.length ≤ 62 * i)
      ⟨[], 7, none, none, none, none, rfl, s1, upd_same, (fun _ h => by cases h), Nat.le_refl _⟩ ?_ ?_⟩
    · rintro i σ H2 hi ⟨ds, mx, x4, x5, x6, x7, rfl, g1, g2, g3, g4⟩
      rw [List.length_map] at hi
      have hi' : i < ns.length := by omega
      have hg : ns[i]? = some ns[i] := List.getElem?_eq_getElem hi'
      have ha : atI (ns.map V.int) (0 + (i : Int)) = some (.int ns[i]) := by rw [Int.zero_add]; exact at_map hg
      generalize ns[i] = c at ha
      -- cell, mixed
      refine ⟨_, rfl, _, rfl, a, _, _, _, rfl, rfl, g1.seq hS, ha, .inl ⟨_, rfl, _, rfl, ?_⟩⟩
      dsimp only
      have hc : 0 ≤ (if c < 0 then -c else c) := by split <;> omega
      generalize (if c < 0 then -c else c) = cell at hc
      refine ⟨_, rfl, _, _, rfl, rfl, .inr ⟨by decide, by decide⟩, _, rfl, _, _, rfl, rfl, (by show (0 : Int) < _; decide), _, _, rfl, rfl, _, rfl, _, _, rfl, rfl, .inl ⟨_, rfl, _, _, rfl, rfl, (by show (0 : Int) < _; decide), ?_⟩⟩
      dsimp only
      generalize (mx * 48271 + cell % 1000003 + (0 + (i : Int))) % 65537 = mx2
      -- rest = 0; if cell >= 10 ** 18
      refine ⟨fun σ' H' => ∃ (ds' : List Int) (rest : Int) , 0 ≤ rest ∧ σ' = [some (.ref a), some (.int (many : Int)), some (.ref o), some (.int mx2), some (.int (0 + (i : Int))), some (.int cell), some (.int rest), x7] ∧ Same H H' ∧ H' o = some (.lst (ds'.map V.int)) ∧ Drawn ds' ∧ ds'.length ≤ 62 * i + 2, ?_, ?_⟩
      · refine ⟨_, rfl, _, _, rfl, rfl, ⟨by decide, by decide, by decide⟩, _, _, rfl, rfl, _, rfl, ifd (fun hb => ?_) (fun hb => ?_)⟩
        · exact ⟨_, rfl, ds, cell, hc, rfl, g1, g2, g3, by omega⟩
        · refine ⟨_, rfl, .inl ⟨rfl, _, sql g2⟩, _, rfl, _, _, rfl, rfl, (by show (0 : Int) < _; decide), o, _, _, rfl, rfl, g2, szl (by rw [List.length_map]; omega), ?_⟩
          refine ⟨_, rfl, .inl ⟨rfl, _, sql upd_same⟩, _, rfl, _, _, rfl, rfl, .inr ⟨by decide, by decide⟩, _, _, rfl, rfl, .inl ⟨_, rfl, _, _, rfl, rfl, (by show (0 : Int) < _; decide), _, _, rfl, rfl, (by show (0 : Int) < _; decide), o, _, _, rfl, rfl, upd_same, szl (by rw [List.length_append, List.length_map]; simp only [List.length_cons, List.length_nil]; omega), ?_⟩⟩
          refine ⟨ds ++ [cell % 997, (mx2 * 69621 + 5) % 65521 % 997], 0, Int.le_refl _, rfl, same_put (same_put g1 ho) ho, ?_, drawn_app g3 fun d hd => ?_, by rw [List.length_append]; simp only [List.length_cons, List.length_nil]; omega⟩
          · rw [upd_same, List.map_append, List.append_assoc]
            rfl
          · simp only [List.mem_cons, List.not_mem_nil, or_false] at hd
            rcases hd with rfl | rfl
            · exact ⟨Int.emod_nonneg _ (by decide), Int.emod_lt_of_pos _ (by decide)⟩
            · exact ⟨Int.emod_nonneg _ (by decide), Int.emod_lt_of_pos _ (by decide)⟩
      rintro σ' H' ⟨ds', rest, hr0, rfl, k1, k2, k3, k4⟩
      -- sixty times
      refine ⟨60, rfl, by decide, by decide, for_range (lo := 0) (n := 60) (fun j σ H3 => ∃ (es : List Int) (rest : Int) (x7 : Option V), 0 ≤ rest ∧ σ = [some (.ref a), some (.int (many : Int)), some (.ref o), some (.int mx2), some (.int (0 + (i : Int))), some (.int cell), some (.int rest), x7] ∧ Same H H3 ∧ H3 o = some (.lst (es.map V.int)) ∧ Drawn es ∧ es.length ≤ 62 * i + 2 + j)
        ⟨ds', rest, x7, hr0, rfl, k1, k2, k3, k4⟩ ?_ ?_⟩
      · rintro j σ H3 hj ⟨es, rest, x7, h0, rfl, k1, k2, k3, k4⟩
        refine ⟨_, rfl, _, _, rfl, rfl, _, rfl, ifd (fun hb => ?_) (fun hb => ?_)⟩
        · refine ⟨_, rfl, .inl ⟨rfl, _, sql k2⟩, _, rfl, .inl ⟨_, rfl, _, _, rfl, rfl, (by show (0 : Int) < _; decide), o, _, _, rfl, rfl, k2, szl (by rw [List.length_map]; omega), ?_⟩⟩
          refine ⟨_, rfl, _, _, rfl, rfl, ⟨by decide, by decide⟩, ?_⟩
          refine ⟨es ++ [rest % 997], rest / 997, some (.int (0 + (j : Int))), Int.ediv_nonneg h0 (by decide), rfl, same_put k1 ho, ?_, drawn_app k3 (drawn_one (Int.emod_nonneg _ (by decide)) (Int.emod_lt_of_pos _ (by decide))), by rw [List.length_append]; simp only [List.length_cons, List.length_nil]; omega⟩
          rw [upd_same, List.map_append]
          rfl
        · exact ⟨es, rest, some (.int (0 + (j : Int))), h0, rfl, k1, k2, k3, by omega⟩
      · rintro σ H3 ⟨es, rest, x7, h0, rfl, k1, k2, k3, k4⟩
        exact ⟨es, mx2, _, _, _, _, rfl, k1, k2, k3, by omega⟩
    · rintro σ H2 ⟨ds, mx, x4, x5, x6, x7, rfl, g1, g2, g3, g4⟩
      have hl0 : ds.length ≤ 4000 := by
        simp only [List.length_map] at g4
        omega
      refine ⟨_, rfl, (many : Int), rfl, by omega, by omega, for_range (lo := 0) (n := (many : Int).toNat) (fun i σ H3 => ∃ (es : List Int) (mx : Int) (x4 : Option V), σ = [some (.ref a), some (.int (many : Int)), some (.ref o), some (.int mx), x4, x5, x6, x7] ∧ Same H H3 ∧ H3 o = some (.lst (es.map V.int)) ∧ Drawn es ∧ es.length = ds.length + i)
        ⟨ds, mx, x4, rfl, g1, g2, g3, rfl⟩ ?_ ?_⟩
      · rintro i σ H3 hi ⟨es, mx, x4, rfl, k1, k2, k3, k4⟩
        refine ⟨_, rfl, _, _, rfl, rfl, .inr ⟨by decide, by decide⟩, _, rfl, _, _, rfl, rfl, _, _, rfl, rfl, .inl ⟨_, rfl, _, _, rfl, rfl, (by show (0 : Int) < _; decide), ?_⟩⟩
        refine ⟨_, rfl, .inl ⟨rfl, _, sql k2⟩, _, rfl, .inl ⟨_, rfl, _, _, rfl, rfl, (by show (0 : Int) < _; decide), o, _, _, rfl, rfl, k2, szl (by rw [List.length_map]; omega), ?_⟩⟩
        refine ⟨es ++ [(mx * 16807 + (0 + (i : Int)) + 1) % 65537 % 997], (mx * 16807 + (0 + (i : Int)) + 1) % 65537, some (.int (0 + (i : Int))), rfl, same_put k1 ho, ?_, drawn_app k3 (drawn_one (Int.emod_nonneg _ (by decide)) (Int.emod_lt_of_pos _ (by decide))), by rw [List.length_append, k4]; simp only [List.length_cons, List.length_nil]; omega⟩
        rw [upd_same, List.map_append]
        rfl
      · rintro σ H3 ⟨es, mx, x4, rfl, k1, k2, k3, k4⟩
        refine ⟨_, rfl, _, rfl, _, rfl, o, _, rfl, sql k2, fun p hp => ?_⟩
        refine q p _ (es.take many) (k1.free hp) (k1.trans (same_upd hp)) ?_ (drawn_take _ k3) (by rw [List.length_take]; omega)
        rw [upd_same, cut0n, List.map_take]
end
/-! a text, many times over -/
theorem fold_cps : ∀ (k : Nat) (x acc : Array Nat), ((List.replicate k x).foldl (· ++ ·) acc).toList = acc.toList ++ (List.replicate k x.toList).flatten
  | 0, x, acc => by simp
  | k + 1, x, acc => by
    rw [List.replicate_succ, List.foldl_cons, fold_cps k, List.replicate_succ, List.flatten_cons, Array.toList_append, List.append_assoc]
theorem mul_list {x : Str} {n : Int} (hn : 1 ≤ n) : (PySem.Txt.mul x n).cps.toList = (List.replicate n.toNat x.cps.toList).flatten := by
  unfold PySem.Txt.mul
  rw [if_neg (by omega)]
  split
  · rename_i h
    rw [Bool.or_eq_true, beq_iff_eq, beq_iff_eq] at h
    rcases h with h | h
    · subst h
      simp
    · have : x.cps.toList = [] := List.eq_nil_of_length_eq_zero (by rw [← zlen]; exact h)
      rw [this]
      simp
  · have := fold_cps n.toNat x.cps #[]
    rw [this]
    rfl
theorem mul_len {x : Str} {n : Int} (hn : 1 ≤ n) : (PySem.Txt.mul x n).length = n.toNat * x.length := by
  rw [zlen, zlen, mul_list hn]
  simp
def rRepS : R2 := fun x y H Q => ∃ i n, x = .str i ∧ y = .int n ∧ 1 ≤ n ∧ n ≤ 100000 ∧ n.toNat * i.length ≤ 100000 ∧ Q (.str (PySem.Txt.mul i n)) H
theorem op_repS {X : Cx} : OpR X (binaryOp .Mult) rRepS := by
  intro pins s σ H x y v u Q I rx ry h
  obtain ⟨i, n, rfl, rfl, h1, h2, h3, q⟩ := h
  obtain ⟨t, rfl⟩ := rx
  obtain ⟨t', rfl⟩ := ry
  refine PySem.SB.mul ⟨?_, fun _ hx => ?_, fun _ _ => ?_⟩ fun t' k => ⟨.str (PySem.Txt.mul i n), H, I.tok _, ⟨_, rfl⟩, q⟩
  · rw [Bool.or_eq_false_iff]
    exact ⟨decide_eq_false (by omega), decide_eq_false (by omega)⟩
  · have h4 : i.length ≤ 100000 := by
      have : 1 * i.length ≤ n.toNat * i.length := Nat.mul_le_mul_right _ (by omega)
      omega
    have h5 : (2 ^ 63 - 1 : Int) / 100000 ≤ (2 ^ 63 - 1) / n := by
      rw [Int.le_ediv_iff_mul_le (by omega)]
      have : (2 ^ 63 - 1 : Int) / 100000 * n ≤ (2 ^ 63 - 1 : Int) / 100000 * 100000 := Int.mul_le_mul_of_nonneg_left h2 (by decide)
      omega
    omega
  · show decide (i.length * n.toNat > sizeLine) = false
    rw [Nat.mul_comm]
    exact decide_eq_false (by rw [sizeLine_eq]; omega)
end My
namespace My
open PySem PySem.Spec PyProof.Rows L2
/-! the law's own packing, of numbers below 128 ^ 40 -/
def LimL : Nat := 128 ^ 40
mutual
def smD : PyData → Bool
  | .int i => decide (-1000000000000 < i) && decide (i < 1000000000000)
  | .tuple ds => smA ds
  | _ => true
def smA : List PyData → Bool
  | [] => true
  | d :: ds => smD d && smA ds
end
theorem smA_at : ∀ {ds : List PyData} {i : Nat} {d : PyData}, smA ds = true → ds[i]? = some d → smD d = true
  | [], _, _, _, e => by simp at e
  | d :: ds, 0, x, h, e => by
    simp only [smA, Bool.and_eq_true] at h
    have : d = x := by simpa using e
    rw [← this]; exact h.1
  | d :: ds, i + 1, _, h, e => by
    simp only [smA, Bool.and_eq_true] at h
    exact smA_at (i := i) h.2 (by simpa using e)
theorem limL_small {n : Nat} (h : n ≤ 1000000000000) : n < LimL := by unfold LimL; exact Nat.lt_of_le_of_lt h (by decide)
theorem enc_limL {n : Nat} (h : n < LimL) : (enc n).length ≤ 40 := enc_len 39 n h
def sp_lnum (K : PySem.W.Frag) : Sp := fun vs H Q _ => ∃ (n : Nat), vs = [.int (n : Int)] ∧ n < LimL ∧ ∀ p H', H p = none → Same H H' → H' p = some (.lst ((enc n).map V.int)) → Q (.ref p) H'
def spLP (K : PySem.W.Frag) : Nat → Sp
  | 0 => fun _ _ _ _ => False
  | n + 1 => fun vs H Q _ => ∃ (v : V) (d : PyData), vs = [v] ∧ Dp K H v d ∧ okV n d = true ∧ smD d = true ∧ (pkL d).length ≤ 90000 ∧ ∀ p H', H p = none → Same H H' → H' p = some (.lst ((pkL d).map V.int)) → Q (.ref p) H'
section
variable {P : Program} {w : World} {K : PySem.W.Frag} {mg : Str → Option Value} {base : Heap}
end
/-! the two sums -/
def sumStep (s : Int × Int) (b : Int) : Int × Int := ((s.1 + b + 1) % 65521, (s.2 + (s.1 + b + 1) % 65521) % 65521)
def sums (s : Int × Int) (bs : List Int) : Int × Int := bs.foldl sumStep s
theorem sums_more {s : Int × Int} {bs : List Int} {i : Nat} {b : Int} (h : bs[i]? = some b) : sums s (bs.take (i + 1)) = sumStep (sums s (bs.take i)) b := by
  unfold sums
  rw [take_more h, List.foldl_append]
  rfl
theorem sums_app (s : Int × Int) (bs cs : List Int) : sums s (bs ++ cs) = sums (sums s bs) cs := List.foldl_append
def sp_checksum (K : PySem.W.Frag) : Sp := fun vs H Q _ => ∃ (a t : Addr) (bs : List Int) (x y : Int), vs = [.ref a, .ref t] ∧ SqL K H a (bs.map V.int) ∧ SqT K H t [.int x, .int y] ∧ ∀ p H', H p = none → Same H H' → H' p = some (.tup [.int (sums (x, y) bs).1, .int (sums (x, y) bs).2]) → Q (.ref p) H'
section
variable {P : Program} {w : World} {K : PySem.W.Frag} {mg : Str → Option Value} {base : Heap}
theorem ok_checksum (T : TX K mg) : FnOk P w K mg base CX0 1 T.a_checksum T.d_checksum ["row", "start"] (sp_checksum K) := by
  refine okD T.FD_checksum sc_checksum (fun vs H Q E h => ?_) (fun cdv A outer s H vs Q E hr h => ?_)
  · obtain ⟨a, t, bs, x, y, rfl, _⟩ := h
    rfl
  · obtain ⟨a, t, bs, x, y, rfl, hS, hT, q⟩ := h
    refine ⟨_, (pss_cons (ps_asg (pv 1) (pg_tup (by rfl) (pgs_cons (pg_name (i := 2) sc_checksum.nd rfl (Or.inl rfl)) (pgs_cons (pg_name (i := 3) sc_checksum.nd rfl (Or.inl rfl)) pgs_nil))))
      (pss_cons (ps_for PassesOwn.never rfl (pi_list (pv 0)) (pg_name (i := 4) sc_checksum.nd rfl (Or.inl rfl))
        (pss_cons (ps_set (i := 2) sc_checksum.nd rfl (Or.inl rfl) (pe_op op_mod (pe_op op_add (pe_op op_add (pv 2) (pv 4)) pe_int) (pe_glob (v := .int 65521) (by rfl) T.c_MODULUS ⟨_, rfl⟩)))
        (pss_one (ps_set (i := 3) sc_checksum.nd rfl (Or.inl rfl) (pe_op op_mod (pe_op op_add (pv 3) (pv 2)) (pe_glob (v := .int 65521) (by rfl) T.c_MODULUS ⟨_, rfl⟩))))))
      (pss_one (ps_ret (pe_tup (pa_cons (pv 2) (pa_cons (pv 3) pa_nil))))))), ?_⟩
    refine ⟨_, rfl, t, _, rfl, hT, rfl, .int x, [.int y], rfl, .int y, [], rfl, rfl, ?_⟩
    refine ⟨_, rfl, a, rfl, ⟨_, hS⟩, for_list (K := K) (a := a) (xs := bs.map V.int) (fun i σ H2 => H = H2 ∧ ∃ x4, σ = [some (.ref a), some (.ref t), some (.int (sums (x, y) (bs.take i)).1), some (.int (sums (x, y) (bs.take i)).2), x4])
      ⟨rfl, none, rfl⟩ (fun i σ H2 _ ⟨e, _⟩ => by rw [← e]; exact hS) ?_ ?_⟩
    · rintro i v σ _ hx ⟨rfl, x4, rfl⟩
      obtain ⟨b, hb, rfl⟩ := map_at hx
      have hm := sums_more (s := (x, y)) hb
      refine ⟨_, rfl, _, rfl, _, _, rfl, rfl, _, _, rfl, rfl, _, _, rfl, rfl, (by show (0 : Int) < _; decide), ?_⟩
      refine ⟨_, rfl, _, rfl, _, _, rfl, rfl, _, _, rfl, rfl, (by show (0 : Int) < _; decide), ?_⟩
      refine ⟨rfl, some (.int b), ?_⟩
      rw [hm]
      rfl
    · rintro σ _ ⟨rfl, x4, rfl⟩
      rw [List.length_map, List.take_length]
      exact ⟨_, rfl, _, rfl, (by show 2 ≤ sizeLine; decide), fun p hp => q p _ hp (same_upd hp) upd_same⟩
end
/-! two changed bytes change the sums -/
def sA : List Int → Int
  | [] => 0
  | b :: bs => b + 1 + sA bs
def sB : List Int → Int
  | [] => 0
  | b :: bs => ((bs.length : Int) + 1) * (b + 1) + sB bs
/-- the same rest by 65521 -/
def Cg (a b : Int) : Prop := ∃ k : Int, a = b + 65521 * k
theorem Cg.refl (a : Int) : Cg a a := ⟨0, by omega⟩
theorem Cg.symm {a b : Int} (h : Cg a b) : Cg b a := by
  obtain ⟨k, e⟩ := h
  exact ⟨-k, by omega⟩
theorem Cg.trans {a b c : Int} (h : Cg a b) (g : Cg b c) : Cg a c := by
  obtain ⟨k, e⟩ := h
  obtain ⟨l, f⟩ := g
  exact ⟨k + l, by omega⟩
theorem cg_mod (a : Int) : Cg (a % 65521) a := ⟨-(a / 65521), by omega⟩
theorem Cg.add {a b c d : Int} (h : Cg a b) (g : Cg c d) : Cg (a + c) (b + d) := by
  obtain ⟨k, e⟩ := h
  obtain ⟨l, f⟩ := g
  exact ⟨k + l, by omega⟩
theorem Cg.mul (n : Int) {a b : Int} (h : Cg a b) : Cg (n * a) (n * b) := by
  obtain ⟨k, e⟩ := h
  exact ⟨n * k, by rw [e, Int.mul_add, Int.mul_left_comm]⟩
theorem sums_cg : ∀ (bs : List Int) (x y : Int), Cg (sums (x, y) bs).1 (x + sA bs) ∧ Cg (sums (x, y) bs).2 (y + (bs.length : Int) * x + sB bs)
  | [], x, y => ⟨by rw [sA, Int.add_zero]; exact .refl _, by
      rw [sB]
      show Cg y (y + (0 : Nat) * x + 0)
      have : y + ((0 : Nat) : Int) * x + 0 = y := by rw [Int.natCast_zero, Int.zero_mul]; omega
      rw [this]
      exact .refl _⟩
  | b :: bs, x, y => by
    have ih := sums_cg bs ((x + b + 1) % 65521) ((y + (x + b + 1) % 65521) % 65521)
    have c1 := cg_mod (x + b + 1)
    have c2 := (cg_mod (y + (x + b + 1) % 65521)).trans ((Cg.refl y).add c1)
    have e : sums (x, y) (b :: bs) = sums ((x + b + 1) % 65521, (y + (x + b + 1) % 65521) % 65521) bs := rfl
    rw [e]
    refine ⟨ih.1.trans ?_, ih.2.trans ?_⟩
    · have h := c1.add (.refl (sA bs))
      have q : x + b + 1 + sA bs = x + sA (b :: bs) := by rw [sA]; omega
      rw [q] at h
      exact h
    · have h := (c2.add (c1.mul (bs.length : Int))).add (.refl (sB bs))
      have q : y + (x + b + 1) + (bs.length : Int) * (x + b + 1) + sB bs = y + ((b :: bs).length : Int) * x + sB (b :: bs) := by
        rw [sB, List.length_cons, Int.natCast_add, Int.add_assoc x b 1, Int.mul_add, Int.add_mul, Int.add_mul]
        simp only [Int.natCast_one, Int.one_mul]
        omega
      rw [q] at h
      exact h
theorem sA_set : ∀ {bs : List Int} {i : Nat} {r : Int} (u : Int), bs[i]? = some r → sA (bs.set i u) = sA bs + (u - r)
  | [], i, r, u, h => by simp at h
  | b :: bs, 0, r, u, h => by
    have e : b = r := Option.some.inj h
    show u + 1 + sA bs = b + 1 + sA bs + (u - r)
    omega
  | b :: bs, i + 1, r, u, h => by
    have ih := sA_set (bs := bs) (i := i) u (by simpa using h)
    show b + 1 + sA (bs.set i u) = b + 1 + sA bs + (u - r)
    omega
theorem sB_set : ∀ {bs : List Int} {i : Nat} {r : Int} (u : Int), bs[i]? = some r → sB (bs.set i u) = sB bs + ((bs.length : Int) - i) * (u - r)
  | [], i, r, u, h => by simp at h
  | b :: bs, 0, r, u, h => by
    have e : b = r := Option.some.inj h
    show ((bs.length : Int) + 1) * (u + 1) + sB bs = ((bs.length : Int) + 1) * (b + 1) + sB bs + (((b :: bs).length : Int) - (0 : Nat)) * (u - r)
    rw [List.length_cons, Int.natCast_add, ← e]
    have q : ((bs.length : Int) + ((1 : Nat) : Int) - ((0 : Nat) : Int)) = (bs.length : Int) + 1 := by omega
    rw [q, Int.mul_sub, Int.mul_add, Int.mul_add]
    omega
  | b :: bs, i + 1, r, u, h => by
    have ih := sB_set (bs := bs) (i := i) u (by simpa using h)
    show (((bs.set i u).length : Int) + 1) * (b + 1) + sB (bs.set i u) = ((bs.length : Int) + 1) * (b + 1) + sB bs + (((b :: bs).length : Int) - ((i + 1 : Nat) : Int)) * (u - r)
    have q : (((b :: bs).length : Int) - ((i + 1 : Nat) : Int)) = (bs.length : Int) - i := by rw [List.length_cons]; omega
    rw [q, ih, List.length_set]
    omega
theorem cop : ∀ d : Nat, d < 256 → d ≠ 0 → Nat.Coprime 65521 d := by
  have h : (List.range 256).all (fun d => d == 0 || Nat.gcd 65521 d == 1) = true := by decide +kernel
  intro d hd h0
  have := List.all_eq_true.mp h d (List.mem_range.mpr hd)
  simp only [Bool.or_eq_true, beq_iff_eq] at this
  exact this.resolve_left h0
/-- 65521 divides no product of a small number and one below it -/
theorem no_prod {a d k : Int} (h : a * d = 65521 * k) (ha : a.natAbs < 65521) (hd : d.natAbs < 256) : a = 0 ∨ d = 0 := by
  by_cases h0 : d = 0
  · exact .inr h0
  · left
    have e : a.natAbs * d.natAbs = 65521 * k.natAbs := by
      rw [← Int.natAbs_mul, h, Int.natAbs_mul]
      rfl
    have dv : 65521 ∣ a.natAbs * d.natAbs := ⟨k.natAbs, e⟩
    have c := cop d.natAbs hd (by omega)
    have := c.dvd_of_dvd_mul_right dv
    have z := Nat.eq_zero_of_dvd_of_lt this ha
    omega
theorem sums_pos (s : Int × Int) : ∀ {bs : List Int}, bs ≠ [] → 0 ≤ (sums s bs).1 ∧ (sums s bs).1 < 65521 ∧ 0 ≤ (sums s bs).2 ∧ (sums s bs).2 < 65521 := by
  intro bs h
  obtain ⟨cs, b, rfl⟩ : ∃ cs b, bs = cs ++ [b] := ⟨bs.dropLast, bs.getLast h, (List.dropLast_concat_getLast h).symm⟩
  rw [sums_app]
  show 0 ≤ (sumStep (sums s cs) b).1 ∧ _ ∧ 0 ≤ (sumStep (sums s cs) b).2 ∧ _
  unfold sumStep
  exact ⟨Int.emod_nonneg _ (by decide), Int.emod_lt_of_pos _ (by decide), Int.emod_nonneg _ (by decide), Int.emod_lt_of_pos _ (by decide)⟩
/-- THE PROMISE: one or two changed places change the sums -/
theorem two_changed {bs : List Int} {i j : Nat} {u v r t : Int} (x y : Int) (hl : bs.length ≤ 65000) (hi : bs[i]? = some r) (hj : (bs.set i u)[j]? = some t) (hu : 0 ≤ u ∧ u < 256) (hv : 0 ≤ v ∧ v < 256) (hb : ∀ b ∈ bs, 0 ≤ b ∧ b < 256)
    (h : sums (x, y) ((bs.set i u).set j v) = sums (x, y) bs) : (bs.set i u).set j v = bs := by
  have li : i < bs.length := (List.getElem?_eq_some_iff.mp hi).1
  have lj : j < bs.length := by have := (List.getElem?_eq_some_iff.mp hj).1; rwa [List.length_set] at this
  have hr := hb r (List.mem_of_getElem? hi)
  have ht : 0 ≤ t ∧ t < 256 := by
    rcases List.mem_or_eq_of_mem_set (List.mem_of_getElem? hj) with q | q
    · exact hb t q
    · rw [q]; exact hu
  have c := sums_cg ((bs.set i u).set j v) x y
  have c0 := sums_cg bs x y
  rw [h] at c
  have k1 := (c0.1.symm.trans c.1)
  have k2 := (c0.2.symm.trans c.2)
  rw [sA_set v hj, sA_set u hi] at k1
  rw [sB_set v hj, sB_set u hi, List.length_set, List.length_set] at k2
  obtain ⟨m1, e1⟩ := k1
  obtain ⟨m2, e2⟩ := k2
  have d12 : (u - r) + (v - t) = 0 := by omega
  by_cases hij : i = j
  · subst hij
    rw [List.getElem?_set_self (by omega)] at hj
    have e : u = t := Option.some.inj hj
    have : v = r := by omega
    rw [List.set_set, this]
    exact set_self hi
  · have e : ((j : Int) - i) * (u - r) = 65521 * (-m2) := by
      have hv' : v - t = -(u - r) := by omega
      rw [hv', Int.mul_neg] at e2
      have q : ((j : Int) - i) * (u - r) = ((bs.length : Int) - i) * (u - r) - ((bs.length : Int) - j) * (u - r) := by
        rw [← Int.sub_mul]
        congr 1
        omega
      rw [q]
      omega
    rcases no_prod e (by omega) (by omega) with z | z
    · omega
    · have hu' : u = r := by omega
      subst hu'
      rw [set_self hi] at hj ⊢
      have : v = t := by omega
      subst this
      exact set_self hj
/-! sectors -/
def chk (bs : List Int) : List Int := [(sums (1, 1) bs).1 % 256, (sums (1, 1) bs).1 / 256, (sums (1, 1) bs).2 % 256, (sums (1, 1) bs).2 / 256]
def secBody (kind : Int) (pl : List Int) : List Int := [kind, (pl.length : Int)] ++ pl ++ List.replicate (58 - pl.length) 0
def sec (b : List Int) : List Int := chk b ++ b
inductive Sr where
  | blank
  | ok (kind : Int) (pl : List Int)
  | bad
def rdB : List Int → Sr
  | k :: l :: rest => if k < 1 ∨ 9 < k then .bad else if 58 < l then .bad else if rest.drop l.toNat = List.replicate (rest.drop l.toNat).length 0 then .ok k (rest.take l.toNat) else .bad
  | _ => .bad
def rdS (bs : List Int) : Sr := if bs = List.replicate 64 0 then .blank else if bs.take 4 = chk (bs.drop 4) then rdB (bs.drop 4) else .bad
theorem chk_len (b : List Int) : (chk b).length = 4 := rfl
theorem sec_drop (b : List Int) : (sec b).drop 4 = b := List.drop_left' (chk_len b)
theorem sec_take (b : List Int) : (sec b).take 4 = chk b := List.take_left' (chk_len b)
theorem zero_chk : chk (List.replicate 60 0) ≠ List.replicate 4 0 := by decide +kernel
theorem sec_notblank {b : List Int} : sec b ≠ List.replicate 64 0 := by
  intro h
  have h1 := congrArg (List.drop 4) h
  have h2 := congrArg (List.take 4) h
  rw [sec_drop, List.drop_replicate] at h1
  rw [sec_take, List.take_replicate, h1] at h2
  exact zero_chk h2
theorem rdS_sec (b : List Int) : rdS (sec b) = rdB b := by
  unfold rdS
  rw [if_neg sec_notblank, sec_take, sec_drop, if_pos rfl]
theorem body_len {kind : Int} {pl : List Int} (h : pl.length ≤ 58) : (secBody kind pl).length = 60 := by
  unfold secBody
  rw [List.length_append, List.length_append, List.length_replicate]
  simp only [List.length_cons, List.length_nil]
  omega
theorem rd_right {kind : Int} {pl : List Int} (h : pl.length ≤ 58) (h1 : 1 ≤ kind) (h9 : kind ≤ 9) : rdS (sec (secBody kind pl)) = .ok kind pl := by
  rw [rdS_sec]
  show (if kind < 1 ∨ 9 < kind then Sr.bad else if 58 < (pl.length : Int) then .bad else if (pl ++ List.replicate (58 - pl.length) 0).drop ((pl.length : Int)).toNat = List.replicate ((pl ++ List.replicate (58 - pl.length) 0).drop ((pl.length : Int)).toNat).length 0 then .ok kind ((pl ++ List.replicate (58 - pl.length) 0).take ((pl.length : Int)).toNat) else .bad) = _
  rw [if_neg (by omega), if_neg (by omega), Int.toNat_natCast, List.drop_left, List.take_left, List.length_replicate, if_pos rfl]
theorem pair_eq {a b c d : Int} (h1 : a % 256 = c % 256) (h2 : a / 256 = c / 256) : a = c := by omega
theorem chk_inj {b c : List Int} (h : chk b = chk c) : sums (1, 1) b = sums (1, 1) c := by
  unfold chk at h
  simp only [List.cons.injEq, and_true] at h
  exact Prod.ext (by omega) (by omega)
/-- one changed place changes both sums -/
theorem one_changed {bs : List Int} {k : Nat} {v r : Int} (hl : bs.length ≤ 65000) (hk : bs[k]? = some r) (hr : 0 ≤ r ∧ r < 256) (hv : 0 ≤ v ∧ v < 256) (hne : v ≠ r) :
    (sums (1, 1) (bs.set k v)).1 ≠ (sums (1, 1) bs).1 ∧ (sums (1, 1) (bs.set k v)).2 ≠ (sums (1, 1) bs).2 := by
  have lk : k < bs.length := (List.getElem?_eq_some_iff.mp hk).1
  have c := sums_cg (bs.set k v) 1 1
  have c0 := sums_cg bs 1 1
  rw [sA_set v hk, sB_set v hk, List.length_set] at c
  refine ⟨fun h => ?_, fun h => ?_⟩
  · rw [h] at c
    obtain ⟨m, e⟩ := c0.1.symm.trans c.1
    omega
  · rw [h] at c
    obtain ⟨m, e⟩ := c0.2.symm.trans c.2
    have e' : ((bs.length : Int) - k) * (v - r) = 65521 * (-m) := by omega
    rcases no_prod e' (by omega) (by omega) with z | z <;> omega
theorem take4_set {b : List Int} {i : Nat} {u : Int} (h : 4 ≤ i) : (((sec b).set i u).take 4 = chk b) ∧ ((sec b).set i u).drop 4 = b.set (i - 4) u := by
  constructor
  · rw [List.take_set_of_le h, sec_take]
  · rw [List.drop_set, if_neg (by omega), sec_drop]
theorem set4 {b c : List Int} {i : Nat} {u : Int} (hc : c.length = 4) (h : i < 4) : ((c ++ b).set i u) = c.set i u ++ b := List.set_append_left _ _ (by omega)
theorem set4' {b c : List Int} {i : Nat} {u : Int} (hc : c.length = 4) (h : 4 ≤ i) : ((c ++ b).set i u) = c ++ b.set (i - 4) u := by rw [List.set_append_right _ _ (by omega), hc]
/-- check bytes of which one was changed do not fit a body of which one byte was changed -/
theorem mixed {b : List Int} {i k : Nat} {u v r : Int} (hl : b.length ≤ 65000) (hk : b[k]? = some r) (hr : 0 ≤ r ∧ r < 256) (hv : 0 ≤ v ∧ v < 256) (hi : i < 4) (h : (chk b).set i u = chk (b.set k v)) : (chk b).set i u ++ b.set k v = sec b := by
  by_cases hne : v = r
  · subst hne
    rw [set_self hk] at h ⊢
    rw [h]
    rfl
  · obtain ⟨n1, n2⟩ := one_changed hl hk hr hv hne
    exfalso
    unfold chk at h
    have h4 : i = 0 ∨ i = 1 ∨ i = 2 ∨ i = 3 := by omega
    rcases h4 with rfl | rfl | rfl | rfl <;> simp only [List.set_cons_zero, List.set_cons_succ, List.cons.injEq, and_true] at h
    · exact n2 (by omega)
    · exact n2 (by omega)
    · exact n1 (by omega)
    · exact n1 (by omega)
/-- what is left when all but two places are nothing -/
theorem not_zeros : (List.range 10).all (fun k => (List.range 59).all (fun n => k == 0 ||
    (let c := chk ([(k : Int), (n : Int)] ++ List.replicate 58 0); (c.getD 0 0 != 0) && (n != 0 || c.getD 2 0 != 0 || c.getD 3 0 != 0)))) = true := by decide +kernel
theorem not_blank {kind : Int} {pl : List Int} {i j : Nat} {u v : Int} (h : pl.length ≤ 58) (h1 : 1 ≤ kind) (h9 : kind ≤ 9) : ((sec (secBody kind pl)).set i u).set j v ≠ List.replicate 64 0 := by
  intro hz
  have z : ∀ k, k < 64 → k ≠ i → k ≠ j → (sec (secBody kind pl))[k]? = some 0 := fun k hk hi hj => by
    have e : (((sec (secBody kind pl)).set i u).set j v)[k]? = (List.replicate 64 (0 : Int))[k]? := by rw [hz]
    rw [List.getElem?_set_ne (fun q => hj q.symm), List.getElem?_set_ne (fun q => hi q.symm), List.getElem?_replicate, if_pos hk] at e
    exact e
  have g : ∀ k, (sec (secBody kind pl))[4 + k]? = (secBody kind pl)[k]? := fun k => by
    unfold sec
    rw [List.getElem?_append_right (by rw [chk_len]; omega), chk_len, Nat.add_sub_cancel_left]
  have g0 : (secBody kind pl)[0]? = some kind := rfl
  have g1 : (secBody kind pl)[1]? = some (pl.length : Int) := rfl
  have k4 : i = 4 ∨ j = 4 := by
    by_cases hi : 4 = i
    · exact .inl hi.symm
    · by_cases hj : 4 = j
      · exact .inr hj.symm
      · have := z 4 (by decide) hi hj
        rw [show (4 : Nat) = 4 + 0 from rfl, g 0, g0] at this
        have := Option.some.inj this
        omega
  -- the other place
  obtain ⟨q, zq⟩ : ∃ q : Nat, ∀ k, k < 64 → k ≠ 4 → k ≠ q → (sec (secBody kind pl))[k]? = some 0 := by
    rcases k4 with rfl | rfl
    · exact ⟨j, fun k hk h4 hq => z k hk h4 hq⟩
    · exact ⟨i, fun k hk h4 hq => z k hk hq h4⟩
  have hq : pl.length ≠ 0 → q = 5 := fun hn => by
    by_cases h5 : 5 = q
    · exact h5.symm
    · have := zq 5 (by decide) (by decide) h5
      rw [show (5 : Nat) = 4 + 1 from rfl, g 1, g1] at this
      have := Option.some.inj this
      omega
  have hpl : pl = List.replicate pl.length 0 := by
    refine List.eq_replicate_iff.mpr ⟨rfl, fun b hb => ?_⟩
    obtain ⟨t, ht, hb⟩ := List.getElem_of_mem hb
    have hq5 := hq (by omega)
    have := zq (4 + (2 + t)) (by omega) (by omega) (by omega)
    rw [g (2 + t)] at this
    unfold secBody at this
    rw [List.append_assoc, List.getElem?_append_right (by simp), List.getElem?_append_left (by simp; omega)] at this
    simp only [List.length_cons, List.length_nil] at this
    rw [show 2 + t - (0 + 1 + 1) = t by omega, List.getElem?_eq_getElem ht] at this
    have := Option.some.inj this
    omega
  have hb : secBody kind pl = [kind, (pl.length : Int)] ++ List.replicate 58 0 := by
    unfold secBody
    rw [List.append_assoc]
    congr 1
    rw [hpl, List.length_replicate, List.replicate_append_replicate]
    congr 1
    omega
  obtain ⟨kk, rfl⟩ : ∃ kk : Nat, kind = (kk : Int) := ⟨kind.toNat, by omega⟩
  have all := List.all_eq_true.mp (List.all_eq_true.mp not_zeros kk (List.mem_range.mpr (by omega))) pl.length (List.mem_range.mpr (by omega))
  rw [← hb] at all
  have kne : (kk == 0) = false := beq_eq_false_iff_ne.mpr (by omega)
  rw [kne, Bool.false_or, Bool.and_eq_true] at all
  have gc : ∀ k, k < 4 → (sec (secBody (kk : Int) pl))[k]? = some ((chk (secBody (kk : Int) pl)).getD k 0) := fun k hk => by
    unfold sec
    rw [List.getElem?_append_left (by rw [chk_len]; exact hk), List.getD_eq_getElem?_getD, List.getElem?_eq_getElem (by rw [chk_len]; exact hk)]
    rfl
  have nz : ∀ k, k < 4 → k ≠ q → (chk (secBody (kk : Int) pl)).getD k 0 = 0 := fun k hk hq => by
    have := zq k (by omega) (by omega) hq
    rw [gc k hk] at this
    exact Option.some.inj this
  have hq0 : q = 0 := by
    by_cases h0 : 0 = q
    · exact h0.symm
    · have := nz 0 (by decide) h0
      rw [this] at all
      exact absurd all.1 (by decide)
  have hn : pl.length = 0 := by
    by_cases hn : pl.length = 0
    · exact hn
    · have := hq hn
      omega
  have a2 := nz 2 (by decide) (by omega)
  have a3 := nz 3 (by decide) (by omega)
  have := all.2
  rw [a2, a3, hn] at this
  exact absurd this (by decide)
theorem body_bytes {kind : Int} {pl : List Int} (h : pl.length ≤ 58) (h0 : 0 ≤ kind) (h9 : kind < 256) (hp : Bytes pl) : Bytes (secBody kind pl) := fun b hb => by
  unfold secBody at hb
  rcases List.mem_append.mp hb with hb | hb
  · rcases List.mem_append.mp hb with hb | hb
    · simp only [List.mem_cons, List.not_mem_nil, or_false] at hb
      omega
    · exact hp b hb
  · have := (List.mem_replicate.mp hb).2
    omega
/-- THE PROMISE: one or two changed bytes of a written sector are found -/
theorem rd_changed {kind : Int} {pl : List Int} {i j : Nat} {u v : Int} (h : pl.length ≤ 58) (h1 : 1 ≤ kind) (h9 : kind ≤ 9) (hp : Bytes pl) (hi : i < 64) (hj : j < 64) (hu : 0 ≤ u ∧ u < 256) (hv : 0 ≤ v ∧ v < 256)
    (hne : ((sec (secBody kind pl)).set i u).set j v ≠ sec (secBody kind pl)) : rdS (((sec (secBody kind pl)).set i u).set j v) = .bad := by
  have hb := body_bytes (kind := kind) h (by omega) (by omega) hp
  have hl := body_len (kind := kind) h
  have hnb := not_blank (i := i) (j := j) (u := u) (v := v) h h1 h9
  generalize secBody kind pl = b at hne hb hl hnb
  unfold rdS
  rw [if_neg hnb]
  refine if_neg fun hc => hne ?_
  have hk : ∀ k, 4 ≤ k → k < 64 → ∃ r, b[k - 4]? = some r ∧ 0 ≤ r ∧ r < 256 := fun k h4 hk => by
    have hlt : k - 4 < b.length := by omega
    exact ⟨b[k - 4], List.getElem?_eq_getElem hlt, hb _ (List.getElem_mem hlt)⟩
  have lc : (chk b).length = 4 := rfl
  by_cases h4i : i < 4
  · by_cases h4j : j < 4
    · have e : ((sec b).set i u).set j v = ((chk b).set i u).set j v ++ b := by
        unfold sec
        rw [set4 lc h4i, set4 (by rw [List.length_set]; rfl) h4j]
      rw [e] at hc ⊢
      have l4 : (((chk b).set i u).set j v).length = 4 := by rw [List.length_set, List.length_set]; rfl
      rw [List.take_left' l4, List.drop_left' l4] at hc
      rw [hc]
      rfl
    · obtain ⟨r, hr, hr2⟩ := hk j (by omega) hj
      have e : ((sec b).set i u).set j v = (chk b).set i u ++ b.set (j - 4) v := by
        unfold sec
        rw [set4 lc h4i, set4' (by rw [List.length_set]; rfl) (by omega)]
      rw [e] at hc ⊢
      have l4 : ((chk b).set i u).length = 4 := by rw [List.length_set]; rfl
      rw [List.take_left' l4, List.drop_left' l4] at hc
      exact mixed (by omega) hr hr2 hv h4i hc
  · by_cases h4j : j < 4
    · obtain ⟨r, hr, hr2⟩ := hk i (by omega) hi
      have e : ((sec b).set i u).set j v = (chk b).set j v ++ b.set (i - 4) u := by
        unfold sec
        rw [set4' lc (by omega), set4 lc h4j]
      rw [e] at hc ⊢
      have l4 : ((chk b).set j v).length = 4 := by rw [List.length_set]; rfl
      rw [List.take_left' l4, List.drop_left' l4] at hc
      exact mixed (by omega) hr hr2 hu h4j hc
    · obtain ⟨r, hr, hr2⟩ := hk i (by omega) hi
      have e : ((sec b).set i u).set j v = chk b ++ (b.set (i - 4) u).set (j - 4) v := by
        unfold sec
        rw [set4' lc (by omega), set4' lc (by omega)]
      rw [e] at hc ⊢
      rw [List.take_left' lc, List.drop_left' lc] at hc
      have hlt : j - 4 < (b.set (i - 4) u).length := by rw [List.length_set]; omega
      have := two_changed 1 1 (by omega) hr (List.getElem?_eq_getElem hlt) hu hv hb (chk_inj hc).symm
      rw [this]
      rfl
theorem rdB_cons (k l : Int) (rest : List Int) : rdB (k :: l :: rest) = if k < 1 ∨ 9 < k then .bad else if 58 < l then .bad else if rest.drop l.toNat = List.replicate (rest.drop l.toNat).length 0 then .ok k (rest.take l.toNat) else .bad := rfl
theorem rdB_kind {k l : Int} {rest : List Int} (h : k < 1 ∨ 9 < k) : rdB (k :: l :: rest) = .bad := if_pos h
theorem rdB_len {k l : Int} {rest : List Int} (h : 58 < l) : rdB (k :: l :: rest) = .bad := by
  rw [rdB_cons]
  by_cases c : k < 1 ∨ 9 < k
  · exact if_pos c
  · rw [if_neg c, if_pos h]
theorem rdB_fill {k l : Int} {rest : List Int} {t : Nat} {x : Int} (ht : l.toNat ≤ t) (hx : rest[t]? = some x) (h : x ≠ 0) : rdB (k :: l :: rest) = .bad := by
  rw [rdB_cons]
  by_cases c : k < 1 ∨ 9 < k
  · exact if_pos c
  · rw [if_neg c]
    by_cases c2 : 58 < l
    · exact if_pos c2
    · rw [if_neg c2, if_neg]
      intro e
      have q := congrArg (fun m => m[t - l.toNat]?) e
      simp only [List.getElem?_drop] at q
      rw [show l.toNat + (t - l.toNat) = t by omega, hx, List.getElem?_replicate] at q
      split at q
      · exact h (Option.some.inj q)
      · cases q
/-! making and reading sectors -/
def sp_check (K : PySem.W.Frag) : Sp := fun vs H Q _ => ∃ (t : Addr) (x y : Int), vs = [.ref t] ∧ SqT K H t [.int x, .int y] ∧ ∀ p H', H p = none → Same H H' → H' p = some (.lst ([x % 256, x / 256, y % 256, y / 256].map V.int)) → Q (.ref p) H'
def sp_checksumT (K : PySem.W.Frag) : Sp := fun vs H Q _ => ∃ (a t : Addr) (bs : List Int) (x y : Int), vs = [.ref a, .ref t] ∧ SqT K H a (bs.map V.int) ∧ SqT K H t [.int x, .int y] ∧ ∀ p H', H p = none → Same H H' → H' p = some (.tup [.int (sums (x, y) bs).1, .int (sums (x, y) bs).2]) → Q (.ref p) H'
def sp_make (K : PySem.W.Frag) : Sp := fun vs H Q _ => ∃ (a : Addr) (kind : Int) (pl : List Int), vs = [.int kind, .ref a] ∧ SqL K H a (pl.map V.int) ∧ pl.length ≤ 58 ∧ ∀ p H', H p = none → Same H H' → H' p = some (.tup ((sec (secBody kind pl)).map V.int)) → Q (.ref p) H'
def sp_read (K : PySem.W.Frag) (cD : Addr) : Sp := fun vs H Q E => ∃ (a : Addr) (bs : List Int), vs = [.ref a] ∧ SqT K H a (bs.map V.int) ∧ bs.length = 64 ∧ Bytes bs ∧ (rdS bs = .blank → Q .non H) ∧ (rdS bs = .bad → ∀ H', Same H H' → E (.ref cD) none H') ∧
  ∀ kind pl, rdS bs = .ok kind pl → ∀ p q H', Same H H' → H' p = some (.tup [.int kind, .ref q]) → H' q = some (.lst (pl.map V.int)) → Q (.ref p) H'
section
variable {P : Program} {w : World} {K : PySem.W.Frag} {mg : Str → Option Value} {base : Heap}
theorem ok_check_bytes (T : TX K mg) : FnOk P w K mg base CX0 1 T.a_check_bytes T.d_check_bytes ["pair"] (sp_check K) := by
  refine T.F_check_bytes.ok sc_check_bytes (fun vs H Q E h => ?_) (fun cdv A outer s H vs Q E hr h => ?_)
  · obtain ⟨t, x, y, rfl, _⟩ := h
    rfl
  · obtain ⟨t, x, y, rfl, hT, q⟩ := h
    refine ⟨_, (pss_cons (ps_asg (pv 0) (pg_tup (by rfl) (pgs_cons (pg_name (i := 1) sc_check_bytes.nd rfl (Or.inl rfl)) (pgs_cons (pg_name (i := 2) sc_check_bytes.nd rfl (Or.inl rfl)) pgs_nil))))
      (pss_one (ps_ret (pe_lst (pa_cons (pe_op op_mod (pv 1) pe_int) (pa_cons (pe_op op_fdiv (pv 1) pe_int) (pa_cons (pe_op op_mod (pv 2) pe_int) (pa_cons (pe_op op_fdiv (pv 2) pe_int) pa_nil)))))))), ?_⟩
    refine ⟨_, rfl, t, _, rfl, hT, rfl, .int x, [.int y], rfl, .int y, [], rfl, rfl, ?_⟩
    refine ⟨_, rfl, _, _, rfl, rfl, (by show (0 : Int) < _; decide), _, rfl, _, _, rfl, rfl, ⟨by decide, by decide⟩, _, rfl, _, _, rfl, rfl, (by show (0 : Int) < _; decide), _, rfl, _, _, rfl, rfl, ⟨by decide, by decide⟩, (by show 4 ≤ sizeLine; decide), fun p hp => q p _ hp (same_upd hp) upd_same⟩
/-- the sums of a tuple -/
theorem ok_checksumT (T : TX K mg) : FnOk P w K mg base CX0 1 T.a_checksum T.d_checksum ["row", "start"] (sp_checksumT K) := by
  refine okD T.FD_checksum sc_checksum (fun vs H Q E h => ?_) (fun cdv A outer s H vs Q E hr h => ?_)
  · obtain ⟨a, t, bs, x, y, rfl, _⟩ := h
    rfl
  · obtain ⟨a, t, bs, x, y, rfl, hS, hT, q⟩ := h
    refine ⟨_, (pss_cons (ps_asg (pv 1) (pg_tup (by rfl) (pgs_cons (pg_name (i := 2) sc_checksum.nd rfl (Or.inl rfl)) (pgs_cons (pg_name (i := 3) sc_checksum.nd rfl (Or.inl rfl)) pgs_nil))))
      (pss_cons (ps_for PassesOwn.never rfl (pi_tup (pv 0)) (pg_name (i := 4) sc_checksum.nd rfl (Or.inl rfl))
        (pss_cons (ps_set (i := 2) sc_checksum.nd rfl (Or.inl rfl) (pe_op op_mod (pe_op op_add (pe_op op_add (pv 2) (pv 4)) pe_int) (pe_glob (v := .int 65521) (by rfl) T.c_MODULUS ⟨_, rfl⟩)))
        (pss_one (ps_set (i := 3) sc_checksum.nd rfl (Or.inl rfl) (pe_op op_mod (pe_op op_add (pv 3) (pv 2)) (pe_glob (v := .int 65521) (by rfl) T.c_MODULUS ⟨_, rfl⟩))))))
      (pss_one (ps_ret (pe_tup (pa_cons (pv 2) (pa_cons (pv 3) pa_nil))))))), ?_⟩
    refine ⟨_, rfl, t, _, rfl, hT, rfl, .int x, [.int y], rfl, .int y, [], rfl, rfl, ?_⟩
    refine ⟨_, rfl, a, rfl, ⟨_, hS⟩, for_tup (K := K) (a := a) (xs := bs.map V.int) (fun i σ H2 => H = H2 ∧ ∃ x4, σ = [some (.ref a), some (.ref t), some (.int (sums (x, y) (bs.take i)).1), some (.int (sums (x, y) (bs.take i)).2), x4])
      ⟨rfl, none, rfl⟩ (fun i σ H2 _ ⟨e, _⟩ => by rw [← e]; exact hS) ?_ ?_⟩
    · rintro i v σ _ hx ⟨rfl, x4, rfl⟩
      obtain ⟨b, hb, rfl⟩ := map_at hx
      have hm := sums_more (s := (x, y)) hb
      refine ⟨_, rfl, _, rfl, _, _, rfl, rfl, _, _, rfl, rfl, _, _, rfl, rfl, (by show (0 : Int) < _; decide), ?_⟩
      refine ⟨_, rfl, _, rfl, _, _, rfl, rfl, _, _, rfl, rfl, (by show (0 : Int) < _; decide), ?_⟩
      refine ⟨rfl, some (.int b), ?_⟩
      rw [hm]
      rfl
    · rintro σ _ ⟨rfl, x4, rfl⟩
      rw [List.length_map, List.take_length]
      exact ⟨_, rfl, _, rfl, (by show 2 ≤ sizeLine; decide), fun p hp => q p _ hp (same_upd hp) upd_same⟩
theorem rep0 (n : Nat) : (List.replicate n [V.int 0]).flatten = (List.replicate n (0 : Int)).map V.int := by
  rw [List.map_replicate, List.flatten_replicate_singleton]
theorem secBody_map (kind : Int) (pl : List Int) : [V.int kind, V.int ((pl.map V.int).length : Int)] ++ pl.map V.int ++ (List.replicate ((58 : Int) - ((pl.map V.int).length : Int)).toNat [V.int 0]).flatten = (secBody kind pl).map V.int := by
  have e : ((58 : Int) - (pl.length : Int)).toNat = 58 - pl.length := by omega
  rw [List.length_map, rep0, e]
  unfold secBody
  rw [List.map_append, List.map_append]
  rfl
theorem ok_make_sector (T : TX K mg) : FnOk P w K mg base CX0 2 T.a_make_sector T.d_make_sector ["kind", "payload"] (sp_make K) := by
  refine T.F_make_sector.ok sc_make_sector (fun vs H Q E h => ?_) (fun cdv A outer s H vs Q E hr h => ?_)
  · obtain ⟨a, kind, pl, rfl, _⟩ := h
    rfl
  · obtain ⟨a, kind, pl, rfl, hS, hl, q⟩ := h
    refine ⟨_, (pss_cons (ps_set (i := 2) sc_make_sector.nd rfl (Or.inl rfl) (pe_op op_cat (pe_op op_cat (pe_lst (pa_cons (pv 0) (pa_cons (pe_callB call_len_seq (by rfl) T.n_len PySem.boot_len (pa_cons (pv 1) pa_nil)) pa_nil))) (pe_callTy call_list_of (by rfl) T.n_list (by decide +kernel) (pa_cons (pv 1) pa_nil))) (pe_op op_rep (pe_lst (pa_cons pe_int pa_nil)) (pe_op op_sub (pe_glob (v := .int 58) (by rfl) T.c_PAYLOAD ⟨_, rfl⟩) (pe_callB call_len_seq (by rfl) T.n_len PySem.boot_len (pa_cons (pv 1) pa_nil))))))
      (pss_one (ps_ret (pe_callTy call_tuple_of (by rfl) T.n_tuple (by decide +kernel) (pa_cons (pe_op op_cat (pe_call (ok_check_bytes T) (hr.mono (by decide)) (by rfl) T.g_check_bytes T.F_check_bytes.kp T.b_check_bytes .nil pass0 (pa_cons (pe_call (ok_checksum T) (hr.mono (by decide)) (by rfl) T.g_checksum T.FD_checksum.kp T.bD_checksum_1.choose_spec.2 T.bD_checksum_1.choose_spec.1 pass0 (pa_cons (pv 2) pa_nil)) pa_nil)) (pv 2)) pa_nil))))), ?_⟩
    have hml : (pl.map V.int).length = pl.length := List.length_map _
    walk_at "go"
    refine EL.use (xs := _) (el_cat (el_cat (el_lst (ea_cons (ei_var rfl) (ea_cons (ei_lenL rfl hS) ea_nil)) (by show 2 ≤ 90000; decide)) (el_listL rfl hS) ?_) (el_rep (el_lst (ea_cons ei_c ea_nil) (by decide)) (ei_i0 ei_c (ei_lenL rfl hS)) ?_ ?_ ?_) ?_) (fun p H1 s1 e1 => ?_)
    · simp only [List.length_cons, List.length_nil, hml]; omega
    · rw [hml]; omega
    · rw [hml]; omega
    · rw [hml]; simp only [List.length_cons, List.length_nil]; omega
    · rw [List.length_append, hml, List.length_flatten, List.map_replicate, List.sum_replicate_nat]
      simp only [List.length_cons, List.length_nil]
      omega
    rw [secBody_map] at e1
    have hb60 := body_len (kind := kind) hl
    -- tuple(check_bytes(checksum(body)) + body)
    refine ⟨_, rfl, p, T.da_checksum_0, secBody kind pl, 1, 1, rfl, sql e1, T.dq_checksum_0 _, fun t1 H2 _ s2 e2 => ⟨t1, _, _, rfl, sqt e2, fun c1 H3 _ s3 e3 => ⟨_, rfl, c1, p, _, _, rfl, rfl, e3, s3 _ _ (s2 _ _ e1), sz (by rw [List.length_map, List.length_map, hb60]; show 4 + 60 ≤ 100000; decide), fun p2 hp2 => ⟨p2, _, rfl, .inl ⟨sql upd_same, fun p3 hp3 => ?_⟩⟩⟩⟩⟩
    have s03 := s1.trans (s2.trans s3)
    refine q p3 _ ((s03.trans (same_upd hp2)).free hp3) ((s03.trans (same_upd hp2)).trans (same_upd hp3)) ?_
    rw [upd_same]
    unfold sec chk
    rw [List.map_append]
theorem take2 (k l : Int) (rest : List Int) : cutV ((k :: l :: rest).map V.int) none (some 2) = [V.int k, V.int l] := (cut0n _ 2).trans rfl
theorem cutn0 (xs : List V) (i : Nat) : cutV xs (some (i : Int)) none = xs.drop i := by
  unfold cutV
  rw [sIx_le, HT.sIx_none]
  by_cases hi : i ≤ xs.length
  · rw [Nat.min_eq_left hi, List.take_of_length_le (by rw [List.length_drop]; omega)]
  · have e : min i xs.length = xs.length := by omega
    rw [e, List.drop_of_length_le (Nat.le_refl _), List.drop_of_length_le (show xs.length ≤ i by omega), List.take_nil]
theorem ok_read_sector (T : TX K mg) : FnOk P w K mg base (L2.CX P w) 2 T.a_read_sector T.d_read_sector ["sector"] (sp_read K T.a_Damaged) := by
  refine T.F_read_sector.okX sc_read_sector (fun vs H Q E h => ?_) (fun cdv A outer s H vs Q E hr h => ?_)
  · obtain ⟨a, bs, rfl, _⟩ := h
    rfl
  · obtain ⟨a, bs, rfl, hS, hl, hb, qN, qB, qO⟩ := h
    refine ⟨_, (pss_cons (ps_if (pt_cmpR (op_eqD hr.units) (pv 0) (pe_glob (v := .ref T.ca_BLANK) (by rfl) T.c_BLANK rfl) (nomark _)) (pss_one (ps_ret pe_non)) pss_nil)
      (pss_cons (ps_set (i := 1) sc_read_sector.nd rfl (Or.inl rfl) (pe_slice sl_tup (pv 0) (po_some (pe_glob (v := .int 4) (by rfl) T.c_CHECK_BYTES ⟨_, rfl⟩)) po_none))
      (pss_cons (ps_if (pt_cmpR (op_neD hr.units) (pe_callTy call_list_of (by rfl) T.n_list (by decide +kernel) (pa_cons (pe_slice sl_tup (pv 0) po_none (po_some (pe_glob (v := .int 4) (by rfl) T.c_CHECK_BYTES ⟨_, rfl⟩))) pa_nil)) (pe_call (ok_check_bytes T) (hr.mono (by decide)) (by rfl) T.g_check_bytes T.F_check_bytes.kp T.b_check_bytes .nil pass0 (pa_cons (pe_call (ok_checksumT T) (hr.mono (by decide)) (by rfl) T.g_checksum T.FD_checksum.kp T.bD_checksum_1.choose_spec.2 T.bD_checksum_1.choose_spec.1 pass0 (pa_cons (pv 1) pa_nil)) pa_nil)) (nomark _)) (pss_one (ps_raise rfl (takes_of rfl rfl rfl rfl) (pmk_own PySem.F.excBase_ValueError T.x_Damaged T.g_Damaged T.k_Damaged (raises_own T.s_Damaged T.t_Damaged) rfl))) pss_nil)
      (pss_cons (ps_asg (pe_slice sl_tup (pv 1) po_none (po_some pe_int)) (pg_tup (by rfl) (pgs_cons (pg_name (i := 2) sc_read_sector.nd rfl (Or.inl rfl)) (pgs_cons (pg_name (i := 3) sc_read_sector.nd rfl (Or.inl rfl)) pgs_nil))))
      (pss_cons (ps_if (PW.pt (pw_or (pt_cmpR op_lt (pv 2) pe_int (nomark _)) (pw_or1 (pt_cmpR op_gt (pv 2) (pe_glob (v := .int 9) (by rfl) T.c_MOST_KIND ⟨_, rfl⟩) (nomark _))))) (pss_one (ps_raise rfl (takes_of rfl rfl rfl rfl) (pmk_own PySem.F.excBase_ValueError T.x_Damaged T.g_Damaged T.k_Damaged (raises_own T.s_Damaged T.t_Damaged) rfl))) pss_nil)
      (pss_cons (ps_if (pt_cmpR op_gt (pv 3) (pe_glob (v := .int 58) (by rfl) T.c_PAYLOAD ⟨_, rfl⟩) (nomark _)) (pss_one (ps_raise rfl (takes_of rfl rfl rfl rfl) (pmk_own PySem.F.excBase_ValueError T.x_Damaged T.g_Damaged T.k_Damaged (raises_own T.s_Damaged T.t_Damaged) rfl))) pss_nil)
      (pss_cons (ps_set (i := 4) sc_read_sector.nd rfl (Or.inl rfl) (pe_slice sl_tup (pv 1) (po_some (pe_op op_add pe_int (pv 3))) po_none))
      (pss_cons (ps_if (pt_cmpR (op_neD hr.units) (pv 4) (pe_slice sl_tup (pe_glob (v := .ref T.ca_BLANK) (by rfl) T.c_BLANK rfl) po_none (po_some (pe_callB call_len_seq (by rfl) T.n_len PySem.boot_len (pa_cons (pv 4) pa_nil)))) (nomark _)) (pss_one (ps_raise rfl (takes_of rfl rfl rfl rfl) (pmk_own PySem.F.excBase_ValueError T.x_Damaged T.g_Damaged T.k_Damaged (raises_own T.s_Damaged T.t_Damaged) rfl))) pss_nil)
      (pss_one (ps_ret (pe_tup (pa_cons (pv 2) (pa_cons (pe_callTy call_list_of (by rfl) T.n_list (by decide +kernel) (pa_cons (pe_slice sl_tup (pv 1) (po_some pe_int) (po_some (pe_op op_add pe_int (pv 3)))) pa_nil)) pa_nil))))))))))))), ?_⟩
    have hml : (bs.map V.int).length = 64 := by rw [List.length_map, hl]
    have hB : ∀ H : Hp, SqT K H T.ca_BLANK ((List.replicate 64 (0 : Int)).map V.int) := fun H => T.q_BLANK H
    -- sector == BLANK
    refine ⟨_, rfl, _, _, .tup hS (dpa_ints bs), .tup (hB H) (dpa_ints _), (flat_tints _).sh (by decide), (flat_tints _).sh (by decide), _, rfl, ifb2 (fun hc => ?_) (fun hc => ?_)⟩
    · rw [eqv_tints] at hc
      exact qN (if_pos (of_decide_eq_true hc))
    rw [eqv_tints] at hc
    have hnb : bs ≠ List.replicate 64 0 := of_decide_eq_false hc
    clear hc
    -- body = sector[4:]
    refine ⟨_, rfl, 4, rfl, a, _, rfl, hS, (by rw [hml]; show ¬ (HT.sIx 64 0 (some ((4 : Nat) : Int)) = 0 ∧ _); rw [sIx_le]; omega), fun p hp => ?_⟩
    have ecut : cutV (bs.map V.int) (some 4) none = (bs.drop 4).map V.int := by rw [List.map_drop]; exact cutn0 _ 4
    rw [ecut]
    have s1 := same_upd (o := .tup ((bs.drop 4).map V.int)) hp
    have e1 : (upd H p (.tup ((bs.drop 4).map V.int))) p = some (.tup ((bs.drop 4).map V.int)) := upd_same
    generalize upd H p (.tup ((bs.drop 4).map V.int)) = H1 at s1 e1
    have hS1 := sqt_same s1 hS
    -- the check bytes
    refine ⟨_, rfl, 4, rfl, a, _, rfl, hS1, (by rw [hml]; show ¬ (_ ∧ HT.sIx 64 64 (some ((4 : Nat) : Int)) = 64); rw [sIx_le]; omega), fun p2 hp2 => ?_⟩
    have ecut2 : cutV (bs.map V.int) none (some 4) = (bs.take 4).map V.int := by rw [List.map_take]; exact cut0n _ 4
    rw [ecut2]
    have s2 := s1.trans (same_upd (o := .tup ((bs.take 4).map V.int)) hp2)
    have e12 := same_upd (o := .tup ((bs.take 4).map V.int)) hp2 _ _ e1
    have e2 : (upd H1 p2 (.tup ((bs.take 4).map V.int))) p2 = some (.tup ((bs.take 4).map V.int)) := upd_same
    generalize upd H1 p2 (.tup ((bs.take 4).map V.int)) = H2 at s2 e12 e2
    refine ⟨p2, _, rfl, .inr (sqt e2), fun p3 hp3 => ?_⟩
    have s3 := s2.trans (same_upd (o := .lst ((bs.take 4).map V.int)) hp3)
    have e13 := same_upd (o := .lst ((bs.take 4).map V.int)) hp3 _ _ e12
    have e3 : (upd H2 p3 (.lst ((bs.take 4).map V.int))) p3 = some (.lst ((bs.take 4).map V.int)) := upd_same
    generalize upd H2 p3 (.lst ((bs.take 4).map V.int)) = H3 at s3 e13 e3
    refine ⟨_, rfl, p, T.da_checksum_0, bs.drop 4, 1, 1, rfl, sqt e13, T.dq_checksum_0 _, fun t1 H4 _ s4 e4 => ⟨t1, _, _, rfl, sqt e4, fun c1 H5 _ s5 e5 => ?_⟩⟩
    have s45 := s4.trans s5
    refine ⟨_, _, dp_ints (s45.seq (sql e3)), dp_ints (ns := chk (bs.drop 4)) (sql e5), (flat_ints _).sh (by decide), (flat_ints _).sh (by decide), _, rfl, ?_⟩
    rw [eqv_ints]
    have s05 := s3.trans s45
    have ebody := s45 _ _ e13
    refine ifn (fun hc => ?_) (fun hc => ?_)
    · refine qB ?_ _ s05
      unfold rdS
      rw [if_neg hnb, if_neg hc]
    have hrd : rdS bs = rdB (bs.drop 4) := by
      unfold rdS
      rw [if_neg hnb, if_pos hc]
    clear hc hnb
    -- kind, length
    obtain ⟨k, l, rest, hbd⟩ : ∃ k l rest, bs.drop 4 = k :: l :: rest := by
      cases e : bs.drop 4 with
      | nil => have := congrArg List.length e; rw [List.length_drop, hl] at this; cases this
      | cons k r =>
        cases r with
        | nil => have := congrArg List.length e; rw [List.length_drop, hl] at this; cases this
        | cons l rest => exact ⟨k, l, rest, rfl⟩
    have hrl : rest.length = 58 := by have := congrArg List.length hbd; rw [List.length_drop, hl] at this; simp only [List.length_cons] at this; omega
    have hl0 : 0 ≤ l := (hb l (List.mem_of_mem_drop (by rw [hbd]; exact List.mem_cons_of_mem _ List.mem_cons_self))).1
    rw [hbd] at ebody hrd
    have hbl : ((k :: l :: rest).map V.int).length = 60 := by rw [List.length_map, List.length_cons, List.length_cons, hrl]
    refine ⟨_, rfl, 2, rfl, p, _, rfl, sqt ebody, (by rw [hbl]; show ¬ (_ ∧ HT.sIx 60 60 (some ((2 : Nat) : Int)) = 60); rw [sIx_le]; omega), fun p4 hp4 => ?_⟩
    rw [take2]
    have s6 := s05.trans (same_upd (o := .tup [.int k, .int l]) hp4)
    have e6 := same_upd (o := .tup [.int k, .int l]) hp4 _ _ ebody
    have e64 : (upd H5 p4 (.tup [.int k, .int l])) p4 = some (.tup [.int k, .int l]) := upd_same
    generalize upd H5 p4 (.tup [.int k, .int l]) = H6 at s6 e6 e64
    refine ⟨p4, _, rfl, sqt e64, rfl, .int k, [.int l], rfl, .int l, [], rfl, rfl, ?_⟩
    -- the kind
    refine ⟨_, rfl, _, _, rfl, rfl, _, rfl, ifd (fun hc => ?_) (fun hc => ?_)⟩
    · exact qB (hrd.trans (rdB_kind (.inl hc))) _ s6
    refine ⟨_, rfl, _, _, rfl, rfl, _, rfl, ifd (fun hc2 => ?_) (fun hc2 => ?_)⟩
    · exact qB (hrd.trans (rdB_kind (.inr hc2))) _ s6
    -- the length
    refine ⟨_, rfl, _, _, rfl, rfl, _, rfl, ifd (fun hc3 => ?_) (fun hc3 => ?_)⟩
    · exact qB (hrd.trans (rdB_len hc3)) _ s6
    obtain ⟨n, rfl⟩ : ∃ n : Nat, l = (n : Int) := ⟨l.toNat, by omega⟩
    have hn : n ≤ 58 := by omega
    -- the filling
    refine ⟨_, rfl, _, rfl, _, _, rfl, rfl, _, rfl, p, _, rfl, sqt e6, (by rw [hbl]; show ¬ (HT.sIx 60 0 (some ((2 : Int) + (n : Int))) = 0 ∧ _); rw [show (2 : Int) + (n : Int) = ((2 + n : Nat) : Int) by omega, sIx_le]; omega), fun p5 hp5 => ?_⟩
    have ecut5 : cutV ((k :: (n : Int) :: rest).map V.int) (some ((2 : Int) + (n : Int))) none = (rest.drop n).map V.int := by
      rw [show (2 : Int) + (n : Int) = ((2 + n : Nat) : Int) by omega, cutn0, ← List.map_drop, Nat.add_comm 2 n]
      rfl
    walk_at "go"
    rw [ecut5]
    have s7 := s6.trans (same_upd (o := .tup ((rest.drop n).map V.int)) hp5)
    have e7 := same_upd (o := .tup ((rest.drop n).map V.int)) hp5 _ _ e6
    have e75 : (upd H6 p5 (.tup ((rest.drop n).map V.int))) p5 = some (.tup ((rest.drop n).map V.int)) := upd_same
    generalize upd H6 p5 (.tup ((rest.drop n).map V.int)) = H7 at s7 e7 e75
    have hfl : ((rest.drop n).map V.int).length = 58 - n := by rw [List.length_map, List.length_drop, hrl]
    refine ⟨_, rfl, _, rfl, p5, _, rfl, .inr (sqt e75), _, rfl, T.ca_BLANK, _, rfl, hB H7, (by rw [List.length_map, List.length_replicate, hfl]; show ¬ (_ ∧ HT.sIx 64 64 (some (((58 - n : Nat) : Int))) = 64); rw [sIx_le]; omega), fun p6 hp6 => ?_⟩
    have ecut6 : cutV ((List.replicate 64 (0 : Int)).map V.int) none (some (((rest.drop n).map V.int).length : Int)) = (List.replicate (58 - n) (0 : Int)).map V.int := by
      rw [hfl, cut0n, ← List.map_take, List.take_replicate]
      congr 2
      omega
    rw [ecut6]
    have s8 := s7.trans (same_upd (o := .tup ((List.replicate (58 - n) (0 : Int)).map V.int)) hp6)
    have s78 := same_upd (o := .tup ((List.replicate (58 - n) (0 : Int)).map V.int)) hp6
    refine ⟨_, _, .tup (sqt (s78 _ _ e75)) (dpa_ints _), .tup (sqt upd_same) (dpa_ints _), (flat_tints _).sh (by decide), (flat_tints _).sh (by decide), _, rfl, ?_⟩
    rw [eqv_tints]
    refine ifn (fun hc4 => ?_) (fun hc4 => ?_)
    · refine qB (hrd.trans ?_) _ s8
      rw [rdB_cons, if_neg (by omega), if_neg (by omega), Int.toNat_natCast, List.length_drop, hrl, if_neg hc4]
    have hok : rdS bs = .ok k (rest.take n) := by
      rw [hrd, rdB_cons, if_neg (by omega), if_neg (by omega), Int.toNat_natCast, List.length_drop, hrl, if_pos hc4]
    have e8 := s78 _ _ e7
    generalize upd H7 p6 (.tup ((List.replicate (58 - n) (0 : Int)).map V.int)) = H8 at s8 e8
    refine ⟨_, rfl, _, rfl, 2, rfl, _, rfl, _, _, rfl, rfl, _, rfl, p, _, rfl, sqt e8, (by rw [hbl]; show ¬ (HT.sIx 60 0 (some ((2 : Nat) : Int)) = 0 ∧ _); rw [sIx_le]; omega), fun p7 hp7 => ?_⟩
    have ecut7 : cutV ((k :: (n : Int) :: rest).map V.int) (some 2) (some ((2 : Int) + (n : Int))) = (rest.take n).map V.int := by
      rw [cut_ints (k :: (n : Int) :: rest) (i := 2) (j := 2 + n) (a := 2) (b := 2 + (n : Int)) rfl (by omega), Nat.add_sub_cancel_left]
      rfl
    have s9 := s8.trans (same_upd (o := .tup ((rest.take n).map V.int)) hp7)
    refine ⟨p7, (rest.take n).map V.int, rfl, .inr (sqt (by rw [← ecut7]; exact upd_same)), fun p8 hp8 => ⟨(by show 2 ≤ sizeLine; decide), fun p9 hp9 => ?_⟩⟩
    rw [ecut7] at hp8 hp9 ⊢
    have n89 : p8 ≠ p9 := fun z => by rw [z, upd_same] at hp9; cases hp9
    exact qO _ _ hok p9 p8 _ ((s9.trans (same_upd hp8)).trans (same_upd hp9)) upd_same (by rw [upd_ne n89, upd_same])
end
end My
namespace My
open PySem PySem.Spec PyProof.Rows L2
/-! sectors by what they hold -/
inductive Sc where
  | blank
  | head (g s b : Nat)
  | part (g b r p c : Nat) (bs : List Int)
def hdP (g s b : Nat) : List Int := pkL (.tuple [.int (g : Int), .int (s : Int), .int (b : Int)])
def ptP (g b r p c : Nat) (bs : List Int) : List Int := [g, b, r, p, c].flatMap enc ++ bs
theorem ptP_eq (g b r p c : Nat) (bs : List Int) : ptP g b r p c bs = enc g ++ (enc b ++ (enc r ++ (enc p ++ (enc c ++ bs)))) := by
  unfold ptP
  simp [List.flatMap]
theorem flat_cut (ns : List Nat) (bs : List Int) {t : Nat} (ht : t < ns.length) : (ns.flatMap enc ++ bs).drop ((ns.take t).flatMap enc).length = enc ns[t] ++ ((ns.drop (t + 1)).flatMap enc ++ bs) := by
  have h : ns = ns.take t ++ ns[t] :: ns.drop (t + 1) := by rw [← List.drop_eq_getElem_cons ht, List.take_append_drop]
  have e : ns.flatMap enc = (ns.take t).flatMap enc ++ (enc ns[t] ++ (ns.drop (t + 1)).flatMap enc) := by
    conv => lhs; rw [h]
    rw [List.flatMap_append, List.flatMap_cons]
  rw [e, List.append_assoc, List.drop_left, List.append_assoc]
theorem flat_more (ns : List Nat) {t : Nat} (ht : t < ns.length) : ((ns.take (t + 1)).flatMap enc).length = ((ns.take t).flatMap enc).length + (enc ns[t]).length := by
  rw [List.take_succ_eq_append_getElem ht, List.flatMap_append, List.length_append]
  simp [List.flatMap]
theorem flat_le (ns : List Nat) (bs : List Int) (t : Nat) : ((ns.take t).flatMap enc).length ≤ (ns.flatMap enc ++ bs).length := by
  have : ns.flatMap enc = (ns.take t).flatMap enc ++ (ns.drop t).flatMap enc := by rw [← List.flatMap_append, List.take_append_drop]
  rw [this]
  simp only [List.length_append]
  omega
def scB : Sc → List Int
  | .blank => List.replicate 64 0
  | .head g s b => sec (secBody 1 (hdP g s b))
  | .part g b r p c bs => sec (secBody 2 (ptP g b r p c bs))
def ScOk : Sc → Prop
  | .blank => True
  | .head g s b => g < 2097152 ∧ s < 2097152 ∧ b < 2097152
  | .part g b r p c bs => g < 2097152 ∧ b < 2097152 ∧ r < 2097152 ∧ p ≤ 1000 ∧ c ≤ 1000 ∧ bs.length ≤ 40 ∧ Bytes bs
theorem enc3 {n : Nat} (h : n < 2097152) : (enc n).length ≤ 3 := enc_len 2 n (by omega)
theorem Bytes.app {a b : List Int} (ha : Bytes a) (hb : Bytes b) : Bytes (a ++ b) := fun x hx => by
  rcases List.mem_append.mp hx with h | h
  · exact ha x h
  · exact hb x h
theorem hdP_eq (g s b : Nat) : hdP g s b = 6 :: 3 :: (3 :: enc g ++ (3 :: enc s ++ (3 :: enc b))) := by
  unfold hdP
  have e : enc 3 = [3] := enc_small (by decide)
  have n0 : ∀ n : Nat, ¬ ((n : Int) < 0) := fun n => by omega
  simp [pkL, pkA, e, n0]
theorem hdP_len {g s b : Nat} (h : ScOk (.head g s b)) : (hdP g s b).length ≤ 14 := by
  have h1 := enc3 h.1
  have h2 := enc3 h.2.1
  have h3 := enc3 h.2.2
  rw [hdP_eq]
  simp only [List.length_cons, List.length_append]
  omega
theorem ptP_len {g b r p c : Nat} {bs : List Int} (h : ScOk (.part g b r p c bs)) : (ptP g b r p c bs).length ≤ 55 := by
  obtain ⟨h1, h2, h3, h4, h5, h6, _⟩ := h
  have h1 := enc3 h1
  have h2 := enc3 h2
  have h3 := enc3 h3
  have h4 := enc3 (show p < 2097152 by omega)
  have h5 := enc3 (show c < 2097152 by omega)
  rw [ptP_eq]
  simp only [List.length_append]
  omega
theorem hd_ok (g s b : Nat) (h : ScOk (.head g s b)) : okV 20 (.tuple [.int (g : Int), .int (s : Int), .int (b : Int)]) = true := by
  have hb : ∀ n : Nat, n < 2097152 → bitsOk (n : Int) = true := fun n hn => by
    unfold bitsOk
    refine decide_eq_true ?_
    unfold Builtin.Int.intBits
    by_cases h0 : (n : Int) = 0
    · rw [h0]; decide
    · have hb : ((n : Int) == 0) = false := by simpa using h0
      rw [hb]
      simp only [Bool.false_eq_true, if_false]
      have := (Nat.log2_lt (show (n : Int).natAbs ≠ 0 by omega)).mpr (show (n : Int).natAbs < 2 ^ 30 by omega)
      omega
  rw [okV_tup]
  simp only [okA, okV, Bool.and_true, Bool.and_eq_true]
  exact ⟨rfl, hb _ h.1, hb _ h.2.1, hb _ h.2.2⟩
theorem hdP_bytes {g s b : Nat} (h : ScOk (.head g s b)) : Bytes (hdP g s b) := pk_bytes 20 _ (hd_ok g s b h)
theorem ptP_bytes {g b r p c : Nat} {bs : List Int} (h : Bytes bs) : Bytes (ptP g b r p c bs) := by rw [ptP_eq]; exact (enc_bytes g).app ((enc_bytes b).app ((enc_bytes r).app ((enc_bytes p).app ((enc_bytes c).app h))))
theorem sec_bytes {kind : Int} {pl : List Int} (hl : pl.length ≤ 58) (h1 : 1 ≤ kind) (h9 : kind ≤ 9) (hp : Bytes pl) : Bytes (sec (secBody kind pl)) := fun x hx => by
  have hb60 := body_len (kind := kind) hl
  rcases List.mem_append.mp hx with h | h
  · have g := sums_pos (1, 1) (bs := secBody kind pl) (fun z => by rw [z] at hb60; cases hb60)
    unfold chk at h
    simp only [List.mem_cons, List.not_mem_nil, or_false] at h
    omega
  · exact body_bytes hl (by omega) (by omega) hp x h
theorem scB_len {s : Sc} (h : ScOk s) : (scB s).length = 64 := by
  cases s with
  | blank => rfl
  | head g s b => show (sec _).length = 64; unfold sec; rw [List.length_append, body_len (by have := hdP_len h; omega)]; rfl
  | part g b r p c bs => show (sec _).length = 64; unfold sec; rw [List.length_append, body_len (by have := ptP_len h; omega)]; rfl
theorem scB_bytes {s : Sc} (h : ScOk s) : Bytes (scB s) := by
  cases s with
  | blank => intro b hb; have := (List.mem_replicate.mp hb).2; omega
  | head g s b => exact sec_bytes (by have := hdP_len h; omega) (by decide) (by decide) (hdP_bytes h)
  | part g b r p c bs => exact sec_bytes (by have := ptP_len h; omega) (by decide) (by decide) (ptP_bytes h.2.2.2.2.2.2)
def scR : Sc → Sr
  | .blank => .blank
  | .head g s b => .ok 1 (hdP g s b)
  | .part g b r p c bs => .ok 2 (ptP g b r p c bs)
theorem scB_rd {s : Sc} (h : ScOk s) : rdS (scB s) = scR s := by
  cases s with
  | blank => exact if_pos rfl
  | head g s b => exact rd_right (by have := hdP_len h; omega) (by decide) (by decide)
  | part g b r p c bs => exact rd_right (by have := ptP_len h; omega) (by decide) (by decide)
def Sv (K : PySem.W.Frag) (H : Hp) (v : V) (s : Sc) : Prop := ∃ p, v = .ref p ∧ SqT K H p ((scB s).map V.int)
theorem Sv.same {K : PySem.W.Frag} {H H' : Hp} {v : V} {s : Sc} (e : Same H H') (h : Sv K H v s) : Sv K H' v s := by
  obtain ⟨p, rfl, h⟩ := h
  exact ⟨p, rfl, sqt_same e h⟩
structure SvA (K : PySem.W.Frag) (H : Hp) (vs : List V) (D : List Sc) : Prop where
  l : vs.length = D.length
  a : ∀ (i : Nat) (s : Sc), D[i]? = some s → ∃ v, vs[i]? = some v ∧ Sv K H v s
  o : ∀ s ∈ D, ScOk s
theorem SvA.same {K : PySem.W.Frag} {H H' : Hp} {vs : List V} {D : List Sc} (e : Same H H') (h : SvA K H vs D) : SvA K H' vs D :=
  ⟨h.l, fun i s hs => by obtain ⟨v, hv, g⟩ := h.a i s hs; exact ⟨v, hv, g.same e⟩, h.o⟩
def scAt (D : List Sc) (i : Nat) : Sc := (D[i]?).getD .blank
theorem SvA.ok {K : PySem.W.Frag} {H : Hp} {vs : List V} {D : List Sc} (h : SvA K H vs D) (i : Nat) : ScOk (scAt D i) := by
  unfold scAt
  cases e : D[i]? with
  | none => exact True.intro
  | some s => exact h.o s (List.mem_of_getElem? e)
/-- a record read -/
def rdMore (D : List Sc) (at' g b r c : Nat) : Nat → Nat → List Int → Option (List Int)
  | _, 0, acc => some acc
  | k, f + 1, acc => match scAt D (at' + k) with
    | .part g' b' r' p' c' bs => if g' = g ∧ b' = b ∧ r' = r ∧ p' = k ∧ c' = c then rdMore D at' g b r c (k + 1) f (acc ++ bs) else none
    | _ => none
def rdRec (D : List Sc) (at' g r least : Nat) : Option (Nat × List Int) := match scAt D at' with
  | .part g' b r' p c bs => if g' = g ∧ r' = r ∧ p = 0 ∧ least ≤ b then (rdMore D at' g b r c 1 (c - 1) bs).map fun row => (b, row) else none
  | _ => none
theorem or_y {ta tb : TT} {σ : L2.St} {H : Hp} {Q : Bool → Hp → Prop} (ha : ∀ R : Bool → Hp → Prop, R true H → ta σ H R) (q : Q true H) : tOr ta tb σ H Q := ha _ ((if_pos rfl).mpr q)
def sp_secat (K : PySem.W.Frag) : Sp := fun vs H Q _ => ∃ (a : Addr) (xs : List V) (D : List Sc) (i : Nat), vs = [.ref a, .int (i : Int)] ∧ SqL K H a xs ∧ SvA K H xs D ∧ ∀ v, Sv K H v (scAt D i) → Q v H
def PartV (H0 H : Hp) (pr : Addr) (g b r p c : Nat) (bs : List Int) : Prop := ∃ t l, H pr = some (.tup [.ref t, .ref l]) ∧ H t = some (.tup (([g, b, r, p, c].map fun (n : Nat) => (n : Int)).map V.int)) ∧ H l = some (.lst (bs.map V.int)) ∧ H0 l = none
def sp_rpart (K : PySem.W.Frag) : Sp := fun vs H Q _ => ∃ (v : V) (s : Sc), vs = [v] ∧ Sv K H v s ∧ ScOk s ∧
  match s with
  | .part g b r p c bs => ∀ pr H', Same H H' → PartV H H' pr g b r p c bs → Q (.ref pr) H'
  | _ => ∀ H', Same H H' → Q .non H'
section
variable {P : Program} {w : World} {K : PySem.W.Frag} {mg : Str → Option Value} {base : Heap}
theorem ok__sector_at (T : TX K mg) : FnOk P w K mg base CX0 1 T.a__sector_at T.d__sector_at ["sectors", "index"] (sp_secat K) := by
  refine T.F__sector_at.ok sc__sector_at (fun vs H Q E h => ?_) (fun cdv A outer s H vs Q E hr h => ?_)
  · obtain ⟨a, xs, D, i, rfl, _⟩ := h
    rfl
  · obtain ⟨a, xs, D, i, rfl, hS, hD, q⟩ := h
    refine ⟨_, (pss_cons (ps_if (pt_cmpR op_lt (pv 1) (pe_callB call_len_seq (by rfl) T.n_len PySem.boot_len (pa_cons (pv 0) pa_nil)) (nomark _)) (pss_one (ps_ret (pe_ix ix_list (pv 0) (pv 1) (fun _ _ => rfl)))) pss_nil)
      (pss_one (ps_ret (pe_glob (v := .ref T.ca_BLANK) (by rfl) T.c_BLANK rfl)))), ?_⟩
    refine ⟨_, rfl, _, rfl, a, _, rfl, .inl hS, _, _, rfl, rfl, _, rfl, ifd (fun hc => ?_) (fun hc => ?_)⟩
    · have hi : i < D.length := by rw [← hD.l]; omega
      obtain ⟨v, hv, g⟩ := hD.a i D[i] (List.getElem?_eq_getElem hi)
      refine ⟨_, rfl, _, rfl, a, _, _, v, rfl, rfl, hS, atI_nat hv, q v ?_⟩
      unfold scAt
      rw [List.getElem?_eq_getElem hi]
      exact g
    · refine q _ ⟨_, rfl, ?_⟩
      have : D[i]? = none := List.getElem?_eq_none (by rw [← hD.l]; omega)
      unfold scAt
      rw [this]
      exact T.q_BLANK H
theorem ok__read_part (T : TX K mg) : FnOk P w K mg base CX0 3 T.a__read_part T.d__read_part ["sector"] (sp_rpart K) := by
  refine T.F__read_part.ok sc__read_part (fun vs H Q E h => ?_) (fun cdv A outer s H vs Q E hr h => ?_)
  · obtain ⟨v, s, rfl, _⟩ := h
    rfl
  · obtain ⟨_, s, rfl, ⟨p, rfl, hT⟩, hok, q⟩ := h
    refine ⟨_, (pss_cons (ps_set (i := 1) sc__read_part.nd rfl (Or.inl rfl) (pe_call (ok_read_sector T) (hr.mono (by decide)) (by rfl) T.g_read_sector T.F_read_sector.kp T.b_read_sector .nil passL (pa_cons (pv 0) pa_nil)))
      (pss_cons (ps_if (PW.pt (pw_or (pt_cmpR op_isN (pv 1) pe_non (nomark _)) (pw_or1 (pt_cmpR op_ne (pe_ix ix_tup (pv 1) pe_int (fun _ _ => rfl)) (pe_glob (v := .int 2) (by rfl) T.c_PART_KIND ⟨_, rfl⟩) (nomark _))))) (pss_one (ps_ret pe_non)) pss_nil)
      (pss_cons (ps_set (i := 2) sc__read_part.nd rfl (Or.inl rfl) (pe_ix ix_tup (pv 1) pe_int (fun _ _ => rfl)))
      (pss_cons (ps_set (i := 3) sc__read_part.nd rfl (Or.inl rfl) (pe_lst pa_nil))
      (pss_cons (ps_set (i := 4) sc__read_part.nd rfl (Or.inl rfl) pe_int)
      (pss_cons (ps_for PassesOwn.never rfl (pi_range1 (by rfl) T.n_range (pa_cons pe_int pa_nil)) (pg_name (i := 5) sc__read_part.nd rfl (Or.inl rfl))
        (pss_cons (ps_asg (pe_call (ok_take_number T) (hr.mono (by decide)) (by rfl) T.g_take_number T.F_take_number.kp T.b_take_number .nil passL (pa_cons (pv 2) (pa_cons (pv 4) pa_nil))) (pg_tup (by rfl) (pgs_cons (pg_name (i := 6) sc__read_part.nd rfl (Or.inl rfl)) (pgs_cons (pg_name (i := 4) sc__read_part.nd rfl (Or.inl rfl)) pgs_nil))))
        (pss_one (ps_expr (pe_bm PySem.F.plainAttrs_list PySem.F.slot_list_append PySem.F.type_list_append mt_append (pv 3) (pa_cons (pv 6) pa_nil))))))
      (pss_one (ps_ret (pe_tup (pa_cons (pe_callTy call_tuple_of (by rfl) T.n_tuple (by decide +kernel) (pa_cons (pv 3) pa_nil)) (pa_cons (pe_slice sl_list (pv 2) (po_some (pv 4)) po_none) pa_nil))))))))))), ?_⟩
    have hrd := scB_rd hok
    refine ⟨_, rfl, p, scB s, rfl, hT, scB_len hok, scB_bytes hok, fun e => ?_, (fun e => by rw [hrd] at e; cases s <;> cases e), fun kind pl e pp pq H1 s1 ep eq => ?_⟩
    · have hs : s = .blank := by rw [hrd] at e; cases s <;> first | rfl | cases e
      subst hs
      dsimp only [gName, tNext, tSeq, tIfS]
      exact or_y (fun R r => ⟨_, rfl, rfl, _, rfl, by rw [decide_eq_true rfl]; exact r⟩) (ifbt rfl (q H (Same.refl _)))
    · rw [hrd] at e
      cases s with
      | blank => cases e
      | head g s b =>
        obtain ⟨rfl, rfl⟩ : 1 = kind ∧ hdP g s b = pl := by cases e; exact ⟨rfl, rfl⟩
        dsimp only [gName, tNext, tSeq, tIfS]
        exact or_use (x := false) (y := true) (fun R r => ⟨_, rfl, rfl, _, rfl, by rw [decide_eq_false (by intro z; cases z)]; exact r⟩) (fun R r => ⟨_, rfl, pp, _, 0, .int 1, rfl, rfl, sqt ep, atI_nat (j := 0) rfl, rfl, _, rfl, r⟩) (ifbt rfl (q H1 s1))
      | part g b r p' c bs =>
        obtain ⟨rfl, rfl⟩ : 2 = kind ∧ ptP g b r p' c bs = pl := by cases e; exact ⟨rfl, rfl⟩
        have hpl := ptP_len hok
        have hby := ptP_bytes (g := g) (b := b) (r := r) (p := p') (c := c) hok.2.2.2.2.2.2
        dsimp only at q
        dsimp only [gName, tNext, tSeq, tIfS]
        refine or_use (x := false) (y := false) (fun R r => ⟨_, rfl, rfl, _, rfl, by rw [decide_eq_false (by intro z; cases z)]; exact r⟩) (fun R r => ⟨_, rfl, pp, _, 0, .int 2, rfl, rfl, sqt ep, atI_nat (j := 0) rfl, rfl, _, rfl, r⟩) (ifbf rfl ?_)
        refine ⟨_, rfl, pp, _, 1, .ref pq, rfl, rfl, sqt ep, atI_nat (j := 1) rfl, Nat.zero_le _, fun pn hpn => ?_⟩
        have s2 := same_upd (o := .lst []) hpn
        have en : (upd H1 pn (.lst [])) pn = some (.lst []) := upd_same
        have eq2 := s2 _ _ eq
        generalize upd H1 pn (.lst []) = H2 at s2 en eq2
        have hn : ∀ t : Nat, t < 5 → ∃ n : Nat, [g, b, r, p', c][t]? = some n ∧ n < 2097152 := fun t ht => by
          obtain ⟨h1, h2, h3, h4, h5, _⟩ := hok
          match t, ht with
          | 0, _ => exact ⟨g, rfl, h1⟩
          | 1, _ => exact ⟨b, rfl, h2⟩
          | 2, _ => exact ⟨r, rfl, h3⟩
          | 3, _ => exact ⟨p', rfl, by omega⟩
          | 4, _ => exact ⟨c, rfl, by omega⟩
        unfold ptP at hpl hby eq2 eq
        have h5 : [g, b, r, p', c].length = 5 := rfl
        generalize hns : [g, b, r, p', c] = ns at hpl hby eq2 eq hn h5
        refine ⟨5, rfl, by decide, by decide, for_range (lo := 0) (n := 5) (fun t σ G => ∃ (x5 x6 : Option V), σ = [some (.ref p), some (.ref pp), some (.ref pq), some (.ref pn), some (.int (((ns.take t).flatMap enc).length : Int)), x5, x6] ∧ Same H1 G ∧ G pn = some (.lst ((((ns.take t).map fun (n : Nat) => (n : Int)).map V.int)))) ⟨none, none, rfl, s2, en⟩ ?_ ?_⟩
        · rintro t σ G ht ⟨x5, x6, rfl, s3, e3⟩
          have ht5 : t < ns.length := by omega
          obtain ⟨n, hn1, hn2⟩ := hn t (by omega)
          have hnt : ns[t] = n := by rw [List.getElem?_eq_getElem ht5] at hn1; exact Option.some.inj hn1
          have hrdn : rd ((ns.flatMap enc ++ bs).drop ((ns.take t).flatMap enc).length) = .num (n : Int) (enc n).length := by
            rw [flat_cut ns bs ht5, hnt]
            have := rd_enc n 500 0 0 ((ns.drop (t + 1)).flatMap enc ++ bs) (by have := enc3 hn2; omega) (.inl rfl)
            unfold rd
            rw [this]
            simp
          have hmore := flat_more ns ht5
          rw [hnt] at hmore
          refine ⟨_, rfl, _, rfl, pq, _, ((ns.take t).flatMap enc).length, rfl, sql (s3 _ _ eq), hby, flat_le ns bs t, by omega, fun n' c' e' p6 G2 _ s4 e6 => ?_, fun e' => ?_, fun e' => ?_⟩
          · obtain ⟨rfl, rfl⟩ : (n : Int) = n' ∧ (enc n).length = c' := by rw [hrdn] at e'; cases e'; exact ⟨rfl, rfl⟩
            have e3' := s4 _ _ e3
            refine ⟨p6, _, rfl, sqt e6, rfl, .int (n : Int), _, rfl, _, _, rfl, rfl, ?_⟩
            refine ⟨_, rfl, .inl ⟨rfl, _, sql e3'⟩, _, rfl, pn, _, _, rfl, rfl, e3', szl (by rw [List.length_map, List.length_map, List.length_take]; omega), ?_⟩
            refine ⟨some (.int (0 + (t : Int))), some (.int (n : Int)), by rw [hmore]; rfl, same_put (s3.trans s4) hpn, ?_⟩
            rw [upd_same, List.take_succ_eq_append_getElem ht5, hnt, List.map_append, List.map_append]
            rfl
          · rw [hrdn] at e'; cases e'
          · rw [hrdn] at e'; cases e'
        · rintro σ G ⟨x5, x6, rfl, s3, e3⟩
          rw [List.take_of_length_le (by omega)] at e3
          have hix : (ns.take 5).flatMap enc = ns.flatMap enc := by rw [List.take_of_length_le (by omega)]
          rw [hix]
          refine ⟨_, rfl, pn, _, rfl, .inl ⟨sql e3, fun pt hpt => ?_⟩⟩
          have s4 := same_upd (o := .tup ((ns.map fun (n : Nat) => (n : Int)).map V.int)) hpt
          have et : (upd G pt (.tup ((ns.map fun (n : Nat) => (n : Int)).map V.int))) pt = some (.tup ((ns.map fun (n : Nat) => (n : Int)).map V.int)) := upd_same
          generalize upd G pt (.tup ((ns.map fun (n : Nat) => (n : Int)).map V.int)) = G4 at s4 et
          refine ⟨_, rfl, _, rfl, _, rfl, pq, _, rfl, sql (s4 _ _ (s3 _ _ eq)), fun pc hpc => ?_⟩
          have ecut : cutV ((ns.flatMap enc ++ bs).map V.int) (some ((ns.flatMap enc).length : Int)) none = bs.map V.int := by
            rw [cutn0, ← List.map_drop, List.drop_left]
          rw [ecut]
          have s5 := same_upd (o := .lst (bs.map V.int)) hpc
          refine ⟨(by show 2 ≤ sizeLine; decide), fun pr hpr => q pr _ (((s1.trans s3).trans (s4.trans s5)).trans (same_upd hpr)) ⟨pt, pc, upd_same, ?_, same_upd hpr _ _ upd_same, none_of ((s1.trans s3).trans s4) hpc⟩⟩
          rw [hns]
          exact same_upd hpr _ _ (s5 _ _ et)
end
def n5 (g b r p c : Nat) : List Int := [g, b, r, p, c].map fun (n : Nat) => (n : Int)
theorem n5_eq (g b r p c g' b' r' p' c' : Nat) : decide (n5 g b r p c = n5 g' b' r' p' c') = decide (g = g' ∧ b = b' ∧ r = r' ∧ p = p' ∧ c = c') := by
  unfold n5
  rw [Bool.eq_iff_iff, decide_eq_true_eq, decide_eq_true_eq]
  simp only [List.map_cons, List.map_nil, List.cons.injEq, and_true]
  omega
theorem or_u {ta tb : TT} {σ : L2.St} {H : Hp} {Q : Bool → Hp → Prop} {x y : Bool} (ha : ∀ R : Bool → Hp → Prop, (∀ G, Same H G → R x G) → ta σ H R) (hb : ∀ G, Same H G → ∀ R : Bool → Hp → Prop, (∀ G', Same G G' → R y G') → tb σ G R) (q : ∀ G, Same H G → Q (x || y) G) : tOr ta tb σ H Q := by
  refine ha _ fun G s => ?_
  cases x with
  | true => exact (if_pos rfl).mpr (q G s)
  | false => exact (if_neg Bool.false_ne_true).mpr (hb G s _ fun G' s' => q G' (s.trans s'))
def sp_rrec (K : PySem.W.Frag) : Sp := fun vs H Q _ => ∃ (a : Addr) (xs : List V) (D : List Sc) (i g r least : Nat), vs = [.ref a, .int (i : Int), .int (g : Int), .int (r : Int), .int (least : Int)] ∧ SqL K H a xs ∧ SvA K H xs D ∧
  match rdRec D i g r least with
  | some (b, row) => ∀ p l H', Same H H' → H' p = some (.tup [.int (b : Int), .ref l]) → H' l = some (.lst (row.map V.int)) → H l = none → Q (.ref p) H'
  | none => ∀ H', Same H H' → Q .non H'
section
variable {P : Program} {w : World} {K : PySem.W.Frag} {mg : Str → Option Value} {base : Heap}
theorem ok__read_record (T : TX K mg) : FnOk P w K mg base CX0 4 T.a__read_record T.d__read_record ["sectors", "at", "generation", "record", "least_boot"] (sp_rrec K) := by
  refine T.F__read_record.ok sc__read_record (fun vs H Q E h => ?_) (fun cdv A outer s H vs Q E hr h => ?_)
  · obtain ⟨a, xs, D, i, g, r, least, rfl, _⟩ := h
    rfl
  · obtain ⟨a, xs, D, i, g, r, least, rfl, hS, hD, q⟩ := h
    refine ⟨_, (pss_cons (ps_set (i := 5) sc__read_record.nd rfl (Or.inl rfl) (pe_call (ok__read_part T) (hr.mono (by decide)) (by rfl) T.g__read_part T.F__read_part.kp T.b__read_part .nil pass0 (pa_cons (pe_call (ok__sector_at T) (hr.mono (by decide)) (by rfl) T.g__sector_at T.F__sector_at.kp T.b__sector_at .nil pass0 (pa_cons (pv 0) (pa_cons (pv 1) pa_nil))) pa_nil)))
      (pss_cons (ps_if (pt_cmpR op_isN (pv 5) pe_non (nomark _)) (pss_one (ps_ret pe_non)) pss_nil)
      (pss_cons (ps_set (i := 6) sc__read_record.nd rfl (Or.inl rfl) (pe_ix ix_tup (pe_ix ix_tup (pv 5) pe_int (fun _ _ => rfl)) pe_int (fun _ _ => rfl)))
      (pss_cons (ps_set (i := 7) sc__read_record.nd rfl (Or.inl rfl) (pe_ix ix_tup (pe_ix ix_tup (pv 5) pe_int (fun _ _ => rfl)) pe_int (fun _ _ => rfl)))
      (pss_cons (ps_if (PW.pt (pw_or (pt_cmpR (op_neD hr.units) (pe_ix ix_tup (pv 5) pe_int (fun _ _ => rfl)) (pe_tup (pa_cons (pv 2) (pa_cons (pv 6) (pa_cons (pv 3) (pa_cons pe_int (pa_cons (pv 7) pa_nil)))))) (nomark _)) (pw_or1 (pt_cmpR op_lt (pv 6) (pv 4) (nomark _))))) (pss_one (ps_ret pe_non)) pss_nil)
      (pss_cons (ps_set (i := 8) sc__read_record.nd rfl (Or.inl rfl) (pe_ix ix_tup (pv 5) pe_int (fun _ _ => rfl)))
      (pss_cons (ps_for PassesOwn.never rfl (pi_range2 (by rfl) T.n_range (pa_cons pe_int (pa_cons (pv 7) pa_nil))) (pg_name (i := 9) sc__read_record.nd rfl (Or.inl rfl))
        (pss_cons (ps_set (i := 5) sc__read_record.nd rfl (Or.inl rfl) (pe_call (ok__read_part T) (hr.mono (by decide)) (by rfl) T.g__read_part T.F__read_part.kp T.b__read_part .nil pass0 (pa_cons (pe_call (ok__sector_at T) (hr.mono (by decide)) (by rfl) T.g__sector_at T.F__sector_at.kp T.b__sector_at .nil pass0 (pa_cons (pv 0) (pa_cons (pe_op op_add (pv 1) (pv 9)) pa_nil))) pa_nil)))
        (pss_cons (ps_if (PW.pt (pw_or (pt_cmpR op_isN (pv 5) pe_non (nomark _)) (pw_or1 (pt_cmpR (op_neD hr.units) (pe_ix ix_tup (pv 5) pe_int (fun _ _ => rfl)) (pe_tup (pa_cons (pv 2) (pa_cons (pv 6) (pa_cons (pv 3) (pa_cons (pv 9) (pa_cons (pv 7) pa_nil)))))) (nomark _))))) (pss_one (ps_ret pe_non)) pss_nil)
        (pss_one (ps_set (i := 8) sc__read_record.nd rfl (Or.inl rfl) (pe_op op_cat (pv 8) (pe_ix ix_tup (pv 5) pe_int (fun _ _ => rfl))))))))
      (pss_one (ps_ret (pe_tup (pa_cons (pv 6) (pa_cons (pv 8) pa_nil)))))))))))), ?_⟩
    refine ⟨_, rfl, _, rfl, a, xs, D, i, rfl, hS, hD, fun v hv => ⟨v, scAt D i, rfl, hv, hD.ok i, ?_⟩⟩
    have hok := hD.ok i
    unfold rdRec at q
    have none_ : (∀ H', Same H H' → Q .non H') → ∀ G, Same H G → Q .non G := fun f => f
    cases e : scAt D i with
    | blank =>
      rw [e] at q
      intro H1 s1
      exact ⟨_, rfl, rfl, _, rfl, ifbt (decide_eq_true rfl) (q H1 s1)⟩
    | head g1 s1 b1 =>
      rw [e] at q
      intro H1 s1
      exact ⟨_, rfl, rfl, _, rfl, ifbt (decide_eq_true rfl) (q H1 s1)⟩
    | part g1 b r1 p1 c bs =>
      rw [e] at q hok
      dsimp only at q ⊢
      intro pr H1 s1 ⟨t, l, epr, et, el, fl⟩
      have h5 : n5 g1 b r1 p1 c = [g1, b, r1, p1, c].map fun (n : Nat) => (n : Int) := rfl
      rw [← h5] at et
      have a1 : atI ((n5 g1 b r1 p1 c).map V.int) 1 = some (.int (b : Int)) := atI_nat (j := 1) rfl
      have a4 : atI ((n5 g1 b r1 p1 c).map V.int) 4 = some (.int (c : Int)) := atI_nat (j := 4) rfl
      refine ⟨_, rfl, rfl, _, rfl, ifbf (decide_eq_false (by intro z; cases z)) ?_⟩
      refine ⟨_, rfl, pr, _, 0, .ref t, rfl, rfl, sqt epr, atI_nat (j := 0) rfl, t, _, 1, .int (b : Int), rfl, rfl, sqt et, a1, ?_⟩
      refine ⟨_, rfl, pr, _, 0, .ref t, rfl, rfl, sqt epr, atI_nat (j := 0) rfl, t, _, 4, .int (c : Int), rfl, rfl, sqt et, a4, ?_⟩
      dsimp only [gName, tNext, tSeq, tIfS]
      refine or_u (x := !decide (n5 g1 b r1 p1 c = n5 g b r 0 c)) (y := decide ((b : Int) < (least : Int))) (fun R rr => ⟨_, rfl, pr, _, 0, .ref t, rfl, rfl, sqt epr, atI_nat (j := 0) rfl, _, rfl, _, rfl, _, rfl, _, rfl, (by show 5 ≤ sizeLine; decide), fun pt hpt => ?_⟩) (fun G sG R rr => ⟨_, rfl, _, rfl, _, _, rfl, rfl, _, rfl, rr _ (Same.refl _)⟩) (fun G sG => ?_)
      · have s2 := same_upd (o := .tup ((n5 g b r 0 c).map V.int)) hpt
        refine ⟨_, _, .tup (sqt (s2 _ _ et)) (dpa_ints _), .tup (sqt upd_same) (dpa_ints (n5 g b r 0 c)), (flat_tints _).sh (by decide), (flat_tints _).sh (by decide), _, rfl, ?_⟩
        rw [eqv_tints]
        exact rr _ s2
      rw [n5_eq]
      by_cases hc : g1 = g ∧ r1 = r ∧ p1 = 0 ∧ least ≤ b
      · rw [if_pos hc] at q
        obtain ⟨rfl, rfl, rfl, hb⟩ := hc
        rw [decide_eq_true ⟨rfl, rfl, rfl, rfl, rfl⟩, decide_eq_false (show ¬ ((b : Int) < (least : Int)) by omega)]
        refine ifbf rfl ?_
        have epr := sG _ _ epr
        have el := sG _ _ el
        have s1G := s1.trans sG
        refine ⟨_, rfl, pr, _, 1, .ref l, rfl, rfl, sqt epr, atI_nat (j := 1) rfl, ?_⟩
        have hok2 := hok
        refine ⟨_, rfl, 1, (c : Int), rfl, ⟨by decide, by decide, by omega, by have := hok.2.2.2.2.1; omega⟩, ?_⟩
        refine for_range (lo := 1) (n := ((c : Int) - 1).toNat) (fun k σ G' => ∃ (pf pl : Addr) (acc : List Int) (x9 : Option V), σ = [some (.ref a), some (.int (i : Int)), some (.int (g1 : Int)), some (.int (r1 : Int)), some (.int (least : Int)), some (.ref pf), some (.int (b : Int)), some (.int (c : Int)), some (.ref pl), x9] ∧ Same H G' ∧ H pl = none ∧ G' pl = some (.lst (acc.map V.int)) ∧ acc.length ≤ 40 * (k + 1) ∧ rdMore D i g1 b r1 c 1 (c - 1) bs = rdMore D i g1 b r1 c (1 + k) (c - 1 - k) acc) ⟨pr, l, bs, none, rfl, s1G, fl, el, by have := hok.2.2.2.2.2.1; omega, rfl⟩ ?_ ?_
        · rintro k σ G' hk ⟨pf, pl, acc, x9, rfl, s2, fpl, e2, hl, hrm⟩
          have hik : (i : Int) + (1 + (k : Int)) = ((i + (1 + k) : Nat) : Int) := by omega
          have hk1 : k < c - 1 := by omega
          refine ⟨_, rfl, _, rfl, _, rfl, _, _, rfl, rfl, a, xs, D, i + (1 + k), congrArg (fun z => [V.ref a, V.int z]) hik, s2.seq hS, hD.same s2, fun v2 hv2 => ⟨v2, scAt D (i + (1 + k)), rfl, hv2, hD.ok _, ?_⟩⟩
          rw [show c - 1 - k = (c - 1 - (k + 1)) + 1 by omega, rdMore] at hrm
          have hok2 := hD.ok (i + (1 + k))
          cases e3 : scAt D (i + (1 + k)) with
          | blank =>
            rw [e3] at hrm
            have qn : ∀ H', Same H H' → Q .non H' := by rw [hrm] at q; exact q
            intro H2 s3
            dsimp only [gName, tNext, tSeq, tIfS]
            exact or_y (fun R rr => ⟨_, rfl, rfl, _, rfl, by rw [decide_eq_true rfl]; exact rr⟩) (ifbt rfl (qn _ (s2.trans s3)))
          | head g2 s2' b2 =>
            rw [e3] at hrm
            have qn : ∀ H', Same H H' → Q .non H' := by rw [hrm] at q; exact q
            intro H2 s3
            dsimp only [gName, tNext, tSeq, tIfS]
            exact or_y (fun R rr => ⟨_, rfl, rfl, _, rfl, by rw [decide_eq_true rfl]; exact rr⟩) (ifbt rfl (qn _ (s2.trans s3)))
          | part g2 b2 r2 p2 c2 bs2 =>
            rw [e3] at hrm hok2
            dsimp only at hrm ⊢
            intro pr2 H2 s3 ⟨t2, l2, epr2, et2, el2, _⟩
            have h52 : n5 g2 b2 r2 p2 c2 = [g2, b2, r2, p2, c2].map fun (n : Nat) => (n : Int) := rfl
            rw [← h52] at et2
            have h6 : n5 g1 b r1 (1 + k) c = [(g1 : Int), (b : Int), (r1 : Int), 1 + (k : Int), (c : Int)] := by unfold n5; simp only [List.map_cons, List.map_nil]; rw [show ((1 + k : Nat) : Int) = 1 + (k : Int) by omega]
            dsimp only [gName, tNext, tSeq, tIfS]
            refine or_u (x := false) (y := !decide (n5 g2 b2 r2 p2 c2 = n5 g1 b r1 (1 + k) c)) (fun R rr => ⟨_, rfl, rfl, _, rfl, by rw [decide_eq_false (by intro z; cases z)]; exact rr _ (Same.refl _)⟩) (fun G2 sG2 R rr => ?_) (fun G2 sG2 => ?_)
            · refine ⟨_, rfl, pr2, _, 0, .ref t2, rfl, rfl, sqt (sG2 _ _ epr2), atI_nat (j := 0) rfl, _, rfl, _, rfl, _, rfl, _, rfl, _, rfl, (by show 5 ≤ sizeLine; decide), fun pt hpt => ?_⟩
              have s4 := same_upd (o := .tup ((n5 g1 b r1 (1 + k) c).map V.int)) hpt
              have ept : (upd G2 pt (.tup ((n5 g1 b r1 (1 + k) c).map V.int))) pt = some (.tup ((n5 g1 b r1 (1 + k) c).map V.int)) := upd_same
              rw [h6] at ept s4
              refine ⟨.tuple ((n5 g2 b2 r2 p2 c2).map .int), .tuple ((n5 g1 b r1 (1 + k) c).map .int), .tup (sqt (s4 _ _ (sG2 _ _ et2))) (dpa_ints _), .tup (sqt ept) (by rw [h6]; exact dpa_ints _), (flat_tints _).sh (by decide), (flat_tints _).sh (by decide), _, rfl, ?_⟩
              rw [eqv_tints]
              exact rr _ s4
            rw [n5_eq]
            by_cases hc2 : g2 = g1 ∧ b2 = b ∧ r2 = r1 ∧ p2 = 1 + k ∧ c2 = c
            · rw [if_pos hc2] at hrm
              rw [decide_eq_true hc2]
              refine ifbf rfl ?_
              have e2' := sG2 _ _ (s3 _ _ e2)
              refine ⟨_, rfl, _, rfl, pr2, _, 1, .ref l2, rfl, rfl, sqt (sG2 _ _ epr2), atI_nat (j := 1) rfl, pl, l2, _, _, rfl, rfl, e2', sG2 _ _ el2, sz (by rw [List.length_map, List.length_map]; have := hok2.2.2.2.2.2.1; have := hok.2.2.2.2.1; omega), fun pn hpn => ?_⟩
              refine ⟨pr2, pn, acc ++ bs2, _, rfl, ((s2.trans s3).trans sG2).trans (same_upd hpn), none_of ((s2.trans s3).trans sG2) hpn, by rw [upd_same, List.map_append], by rw [List.length_append]; have := hok2.2.2.2.2.2.1; omega, ?_⟩
              rw [hrm, show 1 + k + 1 = 1 + (k + 1) by omega]
            · rw [if_neg hc2] at hrm
              have qn : ∀ H', Same H H' → Q .non H' := by rw [hrm] at q; exact q
              rw [decide_eq_false hc2]
              exact ifbt rfl (qn _ ((s2.trans s3).trans sG2))
        · rintro σ G' ⟨pf, pl, acc, x9, rfl, s2, fpl, e2, hl, hrm⟩
          have hk0 : c - 1 - ((c : Int) - 1).toNat = 0 := by omega
          rw [hk0, rdMore] at hrm
          rw [hrm] at q
          exact ⟨_, rfl, _, rfl, (by show 2 ≤ sizeLine; decide), fun p hp => q p pl _ (s2.trans (same_upd hp)) upd_same (same_upd hp _ _ e2) fpl⟩
      · rw [if_neg hc] at q
        have hx : (!decide (g1 = g ∧ b = b ∧ r1 = r ∧ p1 = 0 ∧ c = c) || decide ((b : Int) < (least : Int))) = true := by
          rw [Bool.or_eq_true, Bool.not_eq_true', decide_eq_false_iff_not, decide_eq_true_eq]
          by_cases h1 : g1 = g ∧ b = b ∧ r1 = r ∧ p1 = 0 ∧ c = c
          · refine .inr ?_
            have : ¬ least ≤ b := fun z => hc ⟨h1.1, h1.2.2.1, h1.2.2.2.1, z⟩
            omega
          · exact .inl h1
        rw [hx]
        exact ifbt rfl (q _ (s1.trans sG))
end
end My
namespace My
open PySem PySem.Spec PyProof.Rows L2
def nw1 (s : Sc) (n : Nat × Nat × Nat) : Nat × Nat × Nat := match s with
  | .head g st b => if n.1 < g then (g, st, b) else n
  | _ => n
def nwF (D : List Sc) : Nat → Nat × Nat × Nat
  | 0 => (0, 2, 0)
  | i + 1 => nw1 (scAt D i) (nwF D i)
def isHd : Sc → Prop
  | .part .. => False
  | _ => True
theorem dp_tup3 {K : PySem.W.Frag} {H : Hp} {v : V} {x y z : Int} (h : Dp K H v (.tuple [.int x, .int y, .int z])) : ∃ p, v = .ref p ∧ SqT K H p [.int x, .int y, .int z] := by
  cases h with
  | tup h a =>
    cases a with
    | cons h1 a => cases h1; cases a with
      | cons h2 a => cases h2; cases a with
        | cons h3 a => cases h3; cases a; exact ⟨_, rfl, h⟩
def sp_newest (K : PySem.W.Frag) : Sp := fun vs H Q _ => ∃ (a : Addr) (xs : List V) (D : List Sc), vs = [.ref a] ∧ SqL K H a xs ∧ SvA K H xs D ∧ (∀ i, i < 2 → isHd (scAt D i)) ∧
  ∀ p H', Same H H' → SqT K H' p [.int ((nwF D 2).1 : Int), .int ((nwF D 2).2.1 : Int), .int ((nwF D 2).2.2 : Int)] → Q (.ref p) H'
def pc (n : Nat) : Nat := (n + 39) / 40
def sp_pc (K : PySem.W.Frag) : Sp := fun vs H Q _ => ∃ (a : Addr) (bs : List Int), vs = [.ref a] ∧ SqL K H a (bs.map V.int) ∧ Q (.int (pc bs.length : Int)) H
def partOf (g b r : Nat) (row : List Int) (k : Nat) : Sc := .part g b r k (pc row.length) ((row.drop (40 * k)).take 40)
def partsOf (g b r : Nat) (row : List Int) : List Sc := (List.range (pc row.length)).map (partOf g b r row)
def allParts (g b : Nat) : Nat → List (List Int) → List Sc
  | _, [] => []
  | r, row :: rows => partsOf g b r row ++ allParts g b (r + 1) rows
def RowOk (row : List Int) : Prop := Bytes row ∧ row.length ≤ 40000
theorem part_ok {g b r : Nat} {row : List Int} {k : Nat} (hg : g < 2097152) (hb : b < 2097152) (hr : r < 2097152) (h : RowOk row) (hk : k < pc row.length) : ScOk (partOf g b r row k) := by
  have := h.2
  unfold pc at hk
  refine ⟨hg, hb, hr, by omega, by unfold pc; omega, by rw [List.length_take]; omega, fun x hx => h.1 x (List.mem_of_mem_drop (List.mem_of_mem_take hx))⟩
def sp_psec (K : PySem.W.Frag) : Sp := fun vs H Q _ => ∃ (a : Addr) (g b r k : Nat) (row : List Int), vs = [.int (g : Int), .int (b : Int), .int (r : Int), .int (k : Int), .ref a] ∧ SqL K H a (row.map V.int) ∧ g < 2097152 ∧ b < 2097152 ∧ r < 2097152 ∧ RowOk row ∧ k < pc row.length ∧
  ∀ p H', Same H H' → H' p = some (.tup ((scB (partOf g b r row k)).map V.int)) → Q (.ref p) H'
section
variable {P : Program} {w : World} {K : PySem.W.Frag} {mg : Str → Option Value} {base : Heap}
theorem ok__newest_head (T : TX K mg) : FnOk P w K mg base CX0 45 T.a__newest_head T.d__newest_head ["sectors"] (sp_newest K) := by
  refine T.F__newest_head.ok sc__newest_head (fun vs H Q E h => ?_) (fun cdv A outer s H vs Q E hr h => ?_)
  · obtain ⟨a, xs, D, rfl, _⟩ := h
    rfl
  · obtain ⟨a, xs, D, rfl, hS, hD, hhd, q⟩ := h
    refine ⟨_, (pss_cons (ps_set (i := 1) sc__newest_head.nd rfl (Or.inl rfl) (pe_tup (pa_cons pe_int (pa_cons (pe_glob (v := .int 2) (by rfl) T.c_FIRST_START ⟨_, rfl⟩) (pa_cons pe_int pa_nil)))))
      (pss_cons (ps_for PassesOwn.never rfl (pi_range1 (by rfl) T.n_range (pa_cons (pe_glob (v := .int 2) (by rfl) T.c_FIRST_START ⟨_, rfl⟩) pa_nil)) (pg_name (i := 2) sc__newest_head.nd rfl (Or.inl rfl))
        (pss_cons (ps_set (i := 3) sc__newest_head.nd rfl (Or.inl rfl) (pe_call (ok_read_sector T) (hr.mono (by decide)) (by rfl) T.g_read_sector T.F_read_sector.kp T.b_read_sector .nil passL (pa_cons (pe_call (ok__sector_at T) (hr.mono (by decide)) (by rfl) T.g__sector_at T.F__sector_at.kp T.b__sector_at .nil pass0 (pa_cons (pv 0) (pa_cons (pv 2) pa_nil))) pa_nil)))
        (pss_one (ps_if (pt_cmpR op_notN (pv 3) pe_non (nomark _)) (pss_cons (ps_asg (pv 3) (pg_tup (by rfl) (pgs_cons (pg_name (i := 4) sc__newest_head.nd rfl (Or.inl rfl)) (pgs_cons (pg_name (i := 5) sc__newest_head.nd rfl (Or.inl rfl)) pgs_nil))))
          (pss_cons (ps_if (pt_cmpR op_ne (pv 4) (pe_glob (v := .int 1) (by rfl) T.c_HEAD_KIND ⟨_, rfl⟩) (nomark _)) (pss_one ps_never) pss_nil)
          (pss_cons (ps_set (i := 6) sc__newest_head.nd rfl (Or.inl rfl) (pe_call (ok_unpack T) (hr.mono (by decide)) (by rfl) T.g_unpack T.F_unpack.kp T.b_unpack .nil passL (pa_cons (pv 5) pa_nil)))
          (pss_one (ps_if (pt_cmpR op_gt (pe_ix ix_tup (pv 6) pe_int (fun _ _ => rfl)) (pe_ix ix_tup (pv 1) pe_int (fun _ _ => rfl)) (nomark _)) (pss_one (ps_set (i := 1) sc__newest_head.nd rfl (Or.inl rfl) (pv 6))) pss_nil))))) pss_nil))))
      (pss_one (ps_ret (pv 1))))), ?_⟩
    refine ⟨(by show 3 ≤ sizeLine; decide), fun p0 hp0 => ?_⟩
    refine ⟨2, rfl, by decide, by decide, for_range (lo := 0) (n := 2) (fun i σ G => ∃ (pn : Addr) (x2 x3 x4 x5 x6 : Option V), σ = [some (.ref a), some (.ref pn), x2, x3, x4, x5, x6] ∧ Same H G ∧ SqT K G pn [.int ((nwF D i).1 : Int), .int ((nwF D i).2.1 : Int), .int ((nwF D i).2.2 : Int)]) ⟨p0, none, none, none, none, none, rfl, same_upd hp0, sqt upd_same⟩ ?_ ?_⟩
    · rintro i σ G hi ⟨pn, x2, x3, x4, x5, x6, rfl, s1, hn⟩
      have h0 : (0 : Int) + (i : Int) = (i : Int) := by omega
      refine ⟨_, rfl, _, rfl, a, xs, D, i, congrArg (fun z => [V.ref a, V.int z]) h0, s1.seq hS, hD.same s1, fun v hv => ?_⟩
      obtain ⟨ps, rfl, hT⟩ := hv
      have hok := hD.ok i
      have hrd := scB_rd hok
      have hh := hhd i hi
      refine ⟨ps, scB (scAt D i), rfl, hT, scB_len hok, scB_bytes hok, fun e => ?_, (fun e => by rw [hrd] at e; cases es : scAt D i <;> rw [es] at e <;> cases e), fun kind pl e pp pq H1 s2 ep eq => ?_⟩
      · have hs : scAt D i = .blank := by rw [hrd] at e; cases es : scAt D i <;> rw [es] at e <;> first | rfl | cases e
        refine ⟨_, rfl, rfl, _, rfl, ifbf (by rw [decide_eq_true rfl]; rfl) ⟨pn, _, _, _, _, _, rfl, s1, ?_⟩⟩
        rw [nwF, hs]
        exact hn
      · rw [hrd] at e
        cases es : scAt D i with
        | blank => rw [es] at e; cases e
        | part g b r p c bs => rw [es] at hh; exact hh.elim
        | head g st b =>
          rw [es] at e hok
          obtain ⟨rfl, rfl⟩ : 1 = kind ∧ hdP g st b = pl := by cases e; exact ⟨rfl, rfl⟩
          refine ⟨_, rfl, rfl, _, rfl, ifbt (by rw [decide_eq_false (by intro z; cases z)]; rfl) ?_⟩
          refine ⟨_, rfl, pp, _, rfl, sqt ep, rfl, .int 1, [.ref pq], rfl, .ref pq, [], rfl, rfl, ?_⟩
          refine ⟨_, rfl, rfl, _, rfl, ifbf rfl ?_⟩
          have hlen := hdP_len hok
          have htv := tv_pk 20 _ [] (hd_ok g st b hok)
          rw [List.append_nil] at htv
          refine ⟨_, rfl, pq, hdP g st b, rfl, sql eq, hdP_bytes hok, by omega, ?_⟩
          unfold hdP
          rw [htv]
          dsimp only
          rw [if_neg (Nat.lt_irrefl _)]
          intro v2 H2 s3 hv2
          obtain ⟨ph, rfl, hph⟩ := dp_tup3 hv2
          have s13 := (s1.trans s2).trans s3
          have hn3 := sqt_same (s2.trans s3) hn
          refine ⟨_, rfl, ph, _, 0, _, rfl, rfl, hph, atI_nat (j := 0) rfl, _, rfl, pn, _, 0, _, rfl, rfl, hn3, atI_nat (j := 0) rfl, _, _, rfl, rfl, _, rfl, ifd (fun hc => ?_) (fun hc => ?_)⟩
          · refine ⟨_, rfl, ph, _, _, _, _, _, rfl, s13, ?_⟩
            rw [nwF, es]
            unfold nw1
            dsimp only
            rw [if_pos (by omega)]
            exact hph
          · refine ⟨pn, _, _, _, _, _, rfl, s13, ?_⟩
            rw [nwF, es]
            unfold nw1
            dsimp only
            rw [if_neg (by omega)]
            exact hn3
    · rintro σ G ⟨pn, x2, x3, x4, x5, x6, rfl, s1, hn⟩
      exact ⟨_, rfl, q pn G s1 hn⟩
theorem ok__piece_count (T : TX K mg) : FnOk P w K mg base CX0 1 T.a__piece_count T.d__piece_count ["packed"] (sp_pc K) := by
  refine T.F__piece_count.ok sc__piece_count (fun vs H Q E h => ?_) (fun cdv A outer s H vs Q E hr h => ?_)
  · obtain ⟨a, bs, rfl, _⟩ := h
    rfl
  · obtain ⟨a, bs, rfl, hS, q⟩ := h
    refine ⟨_, (pss_one (ps_ret (pe_op op_fdiv (pe_op op_sub (pe_op op_add (pe_callB call_len_seq (by rfl) T.n_len PySem.boot_len (pa_cons (pv 0) pa_nil)) (pe_glob (v := .int 40) (by rfl) T.c_PIECE ⟨_, rfl⟩)) pe_int) (pe_glob (v := .int 40) (by rfl) T.c_PIECE ⟨_, rfl⟩)))), ?_⟩
    have hml : (bs.map V.int).length = bs.length := List.length_map _
    refine ⟨_, rfl, a, _, rfl, .inl hS, _, _, rfl, rfl, _, _, rfl, rfl, _, _, rfl, rfl, ⟨by decide, by decide⟩, ?_⟩
    have e : (((bs.map V.int).length : Int) + 40 - 1) / 40 = (pc bs.length : Int) := by rw [hml]; unfold pc; omega
    rw [← e] at q
    exact q
end
theorem sqt_put {K : PySem.W.Frag} {G : Hp} {po a : Addr} {ys xs : List V} {o : HO} (e : G po = some (.lst ys)) (h : SqT K G a xs) : SqT K (upd G po o) a xs := by
  rcases h with (h | ⟨od, h⟩) | h
  · exact .inl (.inl (by rw [upd_ne (fun z => by rw [z, e] at h; cases h)]; exact h))
  · exact .inl (.inr ⟨od, by rw [upd_ne (fun z => by rw [z, e] at h; cases h)]; exact h⟩)
  · exact .inr h
theorem allParts_app (g b : Nat) : ∀ (r : Nat) (xs ys : List (List Int)), allParts g b r (xs ++ ys) = allParts g b r xs ++ allParts g b (r + xs.length) ys
  | r, [], ys => rfl
  | r, x :: xs, ys => by
    rw [List.cons_append, allParts, allParts, allParts_app g b (r + 1) xs ys, List.append_assoc, List.length_cons, show r + 1 + xs.length = r + (xs.length + 1) by omega]
theorem allParts_take (g b r : Nat) {rows : List (List Int)} {i : Nat} {row : List Int} (h : rows[i]? = some row) : allParts g b r (rows.take (i + 1)) = allParts g b r (rows.take i) ++ partsOf g b (r + i) row := by
  have hi : i < rows.length := (List.getElem?_eq_some_iff.mp h).1
  rw [take_more h, allParts_app, List.length_take, Nat.min_eq_left (by omega)]
  rw [allParts, allParts, List.append_nil]
theorem lim3 {n : Nat} (h : n < 2097152) : n < Lim := Nat.lt_of_lt_of_le (show n < 128 ^ 3 from h) (by unfold Lim; exact Nat.pow_le_pow_right (by decide) (by decide))
def WrV (K : PySem.W.Frag) (H : Hp) (v : V) (n : Nat) (s : Sc) : Prop := ∃ p q, v = .ref p ∧ SqT K H p [.str "write", .int (n : Int), .ref q] ∧ SqT K H q ((scB s).map V.int)
theorem WrV.same {K : PySem.W.Frag} {H H' : Hp} {v : V} {n : Nat} {s : Sc} (e : Same H H') (h : WrV K H v n s) : WrV K H' v n s := by
  obtain ⟨p, q, rfl, h1, h2⟩ := h
  exact ⟨p, q, rfl, sqt_same e h1, sqt_same e h2⟩
structure WrA (K : PySem.W.Frag) (H : Hp) (ws : List V) (n : Nat) (ss : List Sc) : Prop where
  l : ws.length = ss.length
  a : ∀ (i : Nat) (s : Sc), ss[i]? = some s → ∃ v, ws[i]? = some v ∧ WrV K H v (n + i) s
theorem WrA.same {K : PySem.W.Frag} {H H' : Hp} {ws : List V} {n : Nat} {ss : List Sc} (e : Same H H') (h : WrA K H ws n ss) : WrA K H' ws n ss :=
  ⟨h.l, fun i s hs => by obtain ⟨v, hv, g⟩ := h.a i s hs; exact ⟨v, hv, g.same e⟩⟩
theorem WrA.put {K : PySem.W.Frag} {G : Hp} {po : Addr} {ys : List V} {o : HO} (e : G po = some (.lst ys)) {ws : List V} {n : Nat} {ss : List Sc} (h : WrA K G ws n ss) : WrA K (upd G po o) ws n ss :=
  ⟨h.l, fun i s hs => by obtain ⟨v, hv, p, q, rfl, h1, h2⟩ := h.a i s hs; exact ⟨_, hv, p, q, rfl, sqt_put e h1, sqt_put e h2⟩⟩
theorem WrA.nil {K : PySem.W.Frag} {H : Hp} (n : Nat) : WrA K H [] n [] := ⟨rfl, fun i s hs => by simp at hs⟩
theorem WrA.app {K : PySem.W.Frag} {H : Hp} {ws us : List V} {n : Nat} {ss ts : List Sc} (h : WrA K H ws n ss) (g : WrA K H us (n + ss.length) ts) : WrA K H (ws ++ us) n (ss ++ ts) := by
  refine ⟨by rw [List.length_append, List.length_append, h.l, g.l], fun i s hs => ?_⟩
  by_cases hi : i < ss.length
  · rw [List.getElem?_append_left hi] at hs
    obtain ⟨v, hv, k⟩ := h.a i s hs
    exact ⟨v, by rw [List.getElem?_append_left (by rw [h.l]; exact hi)]; exact hv, k⟩
  · rw [List.getElem?_append_right (by omega)] at hs
    obtain ⟨v, hv, k⟩ := g.a _ s hs
    refine ⟨v, by rw [List.getElem?_append_right (by rw [h.l]; omega), h.l]; exact hv, ?_⟩
    rw [show n + ss.length + (i - ss.length) = n + i by omega] at k
    exact k
theorem WrA.one {K : PySem.W.Frag} {H : Hp} {v : V} {n : Nat} {s : Sc} (h : WrV K H v n s) : WrA K H [v] n [s] := ⟨rfl, fun i t ht => by
  cases i with
  | zero => cases ht; exact ⟨v, rfl, h⟩
  | succ i => simp at ht⟩
/-- lists of numbers, by reference -/
def RowsA (K : PySem.W.Frag) (H : Hp) (vs : List V) (rows : List (List Int)) : Prop := vs.length = rows.length ∧ ∀ (i : Nat) (row : List Int), rows[i]? = some row → ∃ p, vs[i]? = some (.ref p) ∧ SqL K H p (row.map V.int)
theorem RowsA.same {K : PySem.W.Frag} {H H' : Hp} {vs : List V} {rows : List (List Int)} (e : Same H H') (h : RowsA K H vs rows) : RowsA K H' vs rows :=
  ⟨h.1, fun i row hr => by obtain ⟨p, hv, g⟩ := h.2 i row hr; exact ⟨p, hv, e.seq g⟩⟩
def sp_pw (K : PySem.W.Frag) : Sp := fun vs H Q _ => ∃ (a : Addr) (xs : List V) (rows : List (List Int)) (n g b r : Nat), vs = [.ref a, .int (n : Int), .int (g : Int), .int (b : Int), .int (r : Int)] ∧ SqL K H a xs ∧ RowsA K H xs rows ∧ (∀ row ∈ rows, RowOk row) ∧ g < 2097152 ∧ b < 2097152 ∧ r + rows.length < 2097152 ∧ (allParts g b r rows).length ≤ 50000 ∧
  ∀ p ws H', H p = none → Same H H' → H' p = some (.lst ws) → WrA K H' ws n (allParts g b r rows) → Q (.ref p) H'
def sp_pneed (K : PySem.W.Frag) : Sp := fun vs H Q _ => ∃ (v : V) (d : PyData), vs = [v] ∧ Dp K H v d ∧ okV 20 d = true ∧ (pkL d).length ≤ 90000 ∧ ∀ H', Same H H' → Q (.int (pc (pkL d).length : Int)) H'
section
variable {P : Program} {w : World} {K : PySem.W.Frag} {mg : Str → Option Value} {base : Heap}
theorem ok__part_sector (T : TX K mg) : FnOk P w K mg base CX0 3 T.a__part_sector T.d__part_sector ["generation", "boot", "record", "part", "packed"] (sp_psec K) := by
  refine T.F__part_sector.ok sc__part_sector (fun vs H Q E h => ?_) (fun cdv A outer s H vs Q E hr h => ?_)
  · obtain ⟨a, g, b, r, k, row, rfl, _⟩ := h
    rfl
  · obtain ⟨a, g, b, r, k, row, rfl, hS, hg, hb, hr', hrow, hk, q⟩ := h
    refine ⟨_, (pss_cons (ps_set (i := 5) sc__part_sector.nd rfl (Or.inl rfl) (pe_lst pa_nil))
      (pss_cons (ps_for PassesOwn.never rfl (pi_tup (pe_tup (pa_cons (pv 0) (pa_cons (pv 1) (pa_cons (pv 2) (pa_cons (pv 3) (pa_cons (pe_call (ok__piece_count T) (hr.mono (by decide)) (by rfl) T.g__piece_count T.F__piece_count.kp T.b__piece_count .nil pass0 (pa_cons (pv 4) pa_nil)) pa_nil))))))) (pg_name (i := 6) sc__part_sector.nd rfl (Or.inl rfl))
        (pss_one (ps_expr (pe_bm PySem.F.plainAttrs_list PySem.F.slot_list_extend PySem.F.type_list_extend mt_extend (pv 5) (pa_cons (pe_call (ok_put_number T) (hr.mono (by decide)) (by rfl) T.g_put_number T.F_put_number.kp T.b_put_number .nil pass0 (pa_cons (pv 6) pa_nil)) pa_nil)))))
      (pss_one (ps_ret (pe_call (ok_make_sector T) (hr.mono (by decide)) (by rfl) T.g_make_sector T.F_make_sector.kp T.b_make_sector .nil pass0 (pa_cons (pe_glob (v := .int 2) (by rfl) T.c_PART_KIND ⟨_, rfl⟩) (pa_cons (pe_op op_cat (pv 5) (pe_slice sl_list (pv 4) (po_some (pe_op op_mul (pe_glob (v := .int 40) (by rfl) T.c_PIECE ⟨_, rfl⟩) (pv 3))) (po_some (pe_op op_mul (pe_glob (v := .int 40) (by rfl) T.c_PIECE ⟨_, rfl⟩) (pe_op op_add (pv 3) pe_int))))) pa_nil))))))), ?_⟩
    have hok := part_ok hg hb hr' hrow hk
    refine ⟨Nat.zero_le _, fun po hpo => ?_⟩
    have s1 := same_upd (o := .lst []) hpo
    have eo : (upd H po (.lst [])) po = some (.lst []) := upd_same
    generalize upd H po (.lst []) = H1 at s1 eo
    have hS1 := s1.seq hS
    refine ⟨_, rfl, _, rfl, _, rfl, _, rfl, _, rfl, a, row, rfl, hS1, (by show 5 ≤ sizeLine; decide), fun pt hpt => ?_⟩
    have h5 : [g, b, r, k, pc row.length].length = 5 := rfl
    have hlt : ∀ n ∈ [g, b, r, k, pc row.length], n < 2097152 := by
      intro n hn
      obtain ⟨h1, h2, h3, h4, h6, _⟩ := hok
      simp only [List.mem_cons, List.not_mem_nil, or_false] at hn
      omega
    have hpay : scB (partOf g b r row k) = sec (secBody 2 ([g, b, r, k, pc row.length].flatMap enc ++ (row.drop (40 * k)).take 40)) := rfl
    have hlen := ptP_len hok
    unfold ptP at hlen
    have ev : [V.int (g : Int), .int (b : Int), .int (r : Int), .int (k : Int), .int (pc row.length : Int)] = [g, b, r, k, pc row.length].map fun (n : Nat) => V.int (n : Int) := rfl
    rw [ev]
    generalize [g, b, r, k, pc row.length] = ns at h5 hlt hpay hlen
    have et : (upd H1 pt (.tup (ns.map fun (n : Nat) => V.int (n : Int)))) pt = some (.tup (ns.map fun (n : Nat) => V.int (n : Int))) := upd_same
    have s2 := s1.trans (same_upd (o := .tup (ns.map fun (n : Nat) => V.int (n : Int))) hpt)
    have eo2 := same_upd (o := .tup (ns.map fun (n : Nat) => V.int (n : Int))) hpt _ _ eo
    generalize upd H1 pt (.tup (ns.map fun (n : Nat) => V.int (n : Int))) = H2 at et s2 eo2
    refine ⟨pt, rfl, ⟨_, sqt et⟩, for_tup (K := K) (a := pt) (xs := ns.map fun (n : Nat) => V.int (n : Int)) (fun i σ G => ∃ x6 : Option V, σ = [some (.int (g : Int)), some (.int (b : Int)), some (.int (r : Int)), some (.int (k : Int)), some (.ref a), some (.ref po), x6] ∧ Same H G ∧ G pt = some (.tup (ns.map fun (n : Nat) => V.int (n : Int))) ∧ G po = some (.lst (((ns.take i).flatMap enc).map V.int))) ⟨none, rfl, s2, et, eo2⟩ (fun i σ G _ h => by obtain ⟨_, _, _, h, _⟩ := h; exact sqt h) ?_ ?_⟩
    · rintro i v σ G hx ⟨x6, rfl, s3, e3, eo3⟩
      obtain ⟨n, hn, rfl⟩ := map_at hx
      have hi : i < ns.length := (List.getElem?_eq_some_iff.mp hn).1
      have hnn : ns[i] = n := by rw [List.getElem?_eq_getElem hi] at hn; exact Option.some.inj hn
      have hle := flat_le ns ((row.drop (40 * k)).take 40) i
      have he := enc3 (hlt n (List.mem_of_getElem? hn))
      refine ⟨_, rfl, .inl ⟨rfl, _, sql eo3⟩, _, rfl, n, rfl, lim3 (hlt n (List.mem_of_getElem? hn)), fun pb G2 _ s4 e4 => ?_⟩
      refine ⟨po, pb, _, _, rfl, rfl, s4 _ _ eo3, e4, sz (by rw [List.length_map, List.length_map]; omega), ?_⟩
      refine ⟨_, rfl, same_put (s3.trans s4) hpo, ?_, ?_⟩
      · rw [upd_ne (fun z => by rw [z, eo3] at e3; cases e3)]
        exact s4 _ _ e3
      · rw [upd_same, List.take_succ_eq_append_getElem hi, hnn, List.flatMap_append, List.map_append]
        simp [List.flatMap]
    · rintro σ G ⟨x6, rfl, s3, e3, eo3⟩
      rw [List.length_map, List.take_length] at eo3
      have eA : (40 : Int) * (k : Int) = ((40 * k : Nat) : Int) := by omega
      have eB : (40 : Int) * ((k : Int) + 1) = ((40 * k + 40 : Nat) : Int) := by omega
      refine ⟨_, rfl, _, rfl, _, rfl, _, _, rfl, rfl, .inl ⟨by decide, by decide⟩, _, rfl, _, rfl, _, _, rfl, rfl, _, _, rfl, rfl, .inl ⟨by decide, by decide⟩, _, rfl, a, _, rfl, s3.seq hS, fun pc' hpc => ?_⟩
      rw [cut_ints row eA eB, show 40 * k + 40 - 40 * k = 40 by omega]
      have s4 := same_upd (o := .lst (((row.drop (40 * k)).take 40).map V.int)) hpc
      refine ⟨po, pc', _, _, rfl, rfl, s4 _ _ eo3, upd_same, sz (by rw [List.length_map, List.length_map, ← List.length_append]; omega), fun pl hpl => ?_⟩
      rw [← List.map_append]
      have s5 := (s3.trans s4).trans (same_upd (o := .lst ((ns.flatMap enc ++ (row.drop (40 * k)).take 40).map V.int)) hpl)
      refine ⟨pl, 2, _, rfl, sql upd_same, by omega, fun p H' _ s6 e6 => q p H' (s5.trans s6) ?_⟩
      rw [hpay]
      exact e6
theorem ok__part_writes (T : TX K mg) : FnOk P w K mg base CX0 4 T.a__part_writes T.d__part_writes ["rows", "at", "generation", "boot", "record"] (sp_pw K) := by
  refine T.F__part_writes.ok sc__part_writes (fun vs H Q E h => ?_) (fun cdv A outer s H vs Q E hr h => ?_)
  · obtain ⟨a, xs, rows, n, g, b, r, rfl, _⟩ := h
    rfl
  · obtain ⟨a, xs, rows, n, g, b, r, rfl, hS, hR, hok, hg, hb, hrl, hlen, q⟩ := h
    refine ⟨_, (pss_cons (ps_set (i := 5) sc__part_writes.nd rfl (Or.inl rfl) (pe_lst pa_nil))
      (pss_cons (ps_for PassesOwn.never rfl (pi_list (pv 0)) (pg_name (i := 6) sc__part_writes.nd rfl (Or.inl rfl))
        (pss_cons (ps_for PassesOwn.never rfl (pi_range1 (by rfl) T.n_range (pa_cons (pe_call (ok__piece_count T) (hr.mono (by decide)) (by rfl) T.g__piece_count T.F__piece_count.kp T.b__piece_count .nil pass0 (pa_cons (pv 6) pa_nil)) pa_nil)) (pg_name (i := 7) sc__part_writes.nd rfl (Or.inl rfl))
          (pss_cons (ps_expr (pe_bm PySem.F.plainAttrs_list PySem.F.slot_list_append PySem.F.type_list_append mt_append (pv 5) (pa_cons (pe_tup (pa_cons pe_str (pa_cons (pv 1) (pa_cons (pe_call (ok__part_sector T) (hr.mono (by decide)) (by rfl) T.g__part_sector T.F__part_sector.kp T.b__part_sector .nil pass0 (pa_cons (pv 2) (pa_cons (pv 3) (pa_cons (pv 4) (pa_cons (pv 7) (pa_cons (pv 6) pa_nil)))))) pa_nil)))) pa_nil)))
          (pss_one (ps_aug (i := 1) sc__part_writes.nd rfl (Or.inl rfl) pe_int ip_add))))
        (pss_one (ps_aug (i := 4) sc__part_writes.nd rfl (Or.inl rfl) pe_int ip_add))))
      (pss_one (ps_ret (pv 5))))), ?_⟩
    refine ⟨Nat.zero_le _, fun po hpo => ?_⟩
    have s1 := same_upd (o := .lst []) hpo
    have eo : (upd H po (.lst [])) po = some (.lst []) := upd_same
    generalize upd H po (.lst []) = H1 at s1 eo
    have hl2 : ∀ i, (allParts g b r (rows.take i)).length ≤ (allParts g b r rows).length := fun i => by
      conv => rhs; rw [← List.take_append_drop i rows, allParts_app]
      rw [List.length_append]
      omega
    refine ⟨_, rfl, a, rfl, ⟨_, s1.seq hS⟩, for_list (K := K) (a := a) (xs := xs) (fun i σ G => ∃ (ws : List V) (x6 x7 : Option V), σ = [some (.ref a), some (.int ((n + (allParts g b r (rows.take i)).length : Nat) : Int)), some (.int (g : Int)), some (.int (b : Int)), some (.int ((r + i : Nat) : Int)), some (.ref po), x6, x7] ∧ Same H G ∧ G po = some (.lst ws) ∧ WrA K G ws n (allParts g b r (rows.take i))) ⟨[], none, none, rfl, s1, eo, .nil n⟩ (fun i σ G _ h => by obtain ⟨_, _, _, _, h, _⟩ := h; exact h.seq hS) ?_ ?_⟩
    · rintro i v σ G hx ⟨ws, x6, x7, rfl, s2, eo2, hw⟩
      have hi : i < rows.length := by rw [← hR.1]; exact (List.getElem?_eq_some_iff.mp hx).1
      have hrow : rows[i]? = some rows[i] := List.getElem?_eq_getElem hi
      obtain ⟨p, hp, hpS⟩ := hR.2 i _ hrow
      obtain rfl : v = .ref p := by rw [hp] at hx; exact (Option.some.inj hx).symm
      have hrok := hok _ (List.mem_of_getElem? hrow)
      have htk := allParts_take g b r hrow
      have hl3 := hl2 (i + 1)
      generalize rows[i] = row at hrow hpS hrok htk
      rw [htk, List.length_append] at hl3
      have hpl : (partsOf g b (r + i) row).length = pc row.length := by unfold partsOf; rw [List.length_map, List.length_range]
      rw [hpl] at hl3
      refine ⟨_, rfl, p, row, rfl, s2.seq hpS, _, rfl, by omega, by omega, ?_⟩
      refine for_range (lo := 0) (n := _) (fun k σ G => ∃ (ws : List V) (x7 : Option V), σ = [some (.ref a), some (.int ((n + (allParts g b r (rows.take i)).length + k : Nat) : Int)), some (.int (g : Int)), some (.int (b : Int)), some (.int ((r + i : Nat) : Int)), some (.ref po), some (.ref p), x7] ∧ Same H G ∧ G po = some (.lst ws) ∧ WrA K G ws n (allParts g b r (rows.take i) ++ (List.range k).map (partOf g b (r + i) row))) ⟨ws, x7, rfl, s2, eo2, by rw [List.range_zero, List.map_nil, List.append_nil]; exact hw⟩ ?_ ?_
      · rintro k σ G3 hk ⟨ws, x7, rfl, s3, eo3, hw3⟩
        have hk2 : k < pc row.length := by omega
        have k0 : (0 : Int) + (k : Int) = (k : Int) := by omega
        have hwl := hw3.l
        rw [List.length_append, List.length_map, List.length_range] at hwl
        refine ⟨_, rfl, .inl ⟨rfl, _, sql eo3⟩, _, rfl, _, rfl, _, rfl, _, rfl, _, rfl, _, rfl, p, g, b, r + i, k, row, congrArg (fun z => [V.int (g : Int), V.int (b : Int), V.int ((r + i : Nat) : Int), V.int z, V.ref p]) k0, s3.seq hpS, hg, hb, by omega, hrok, hk2, fun ps G4 s4 e4 => ?_⟩
        refine ⟨(by show 3 ≤ sizeLine; decide), fun pw hpw => ?_⟩
        have s5 := s4.trans (same_upd (o := .tup [.str "write", .int ((n + (allParts g b r (rows.take i)).length + k : Nat) : Int), .ref ps]) hpw)
        have hWr : WrV K (upd G4 pw (.tup [.str "write", .int ((n + (allParts g b r (rows.take i)).length + k : Nat) : Int), .ref ps])) (.ref pw) (n + (allParts g b r (rows.take i) ++ (List.range k).map (partOf g b (r + i) row)).length) (partOf g b (r + i) row k) := by
          refine ⟨pw, ps, rfl, ?_, sqt (same_upd hpw _ _ e4)⟩
          rw [List.length_append, List.length_map, List.length_range, ← Nat.add_assoc]
          exact sqt upd_same
        have eo5 := s5 _ _ eo3
        have hw5 := hw3.same s5
        generalize upd G4 pw (.tup [.str "write", .int ((n + (allParts g b r (rows.take i)).length + k : Nat) : Int), .ref ps]) = G5 at s5 hWr eo5 hw5
        refine ⟨po, _, _, rfl, rfl, eo5, szl (by omega), ?_⟩
        refine ⟨_, rfl, _, _, rfl, rfl, ?_⟩
        refine ⟨ws ++ [.ref pw], some (.int (0 + (k : Int))), ?_, same_put (s3.trans s5) hpo, upd_same, ?_⟩
        · exact congrArg (fun z => [some (V.ref a), some (V.int z), some (V.int (g : Int)), some (V.int (b : Int)), some (V.int ((r + i : Nat) : Int)), some (V.ref po), some (V.ref p), some (V.int (0 + (k : Int)))]) (show ((n + (allParts g b r (rows.take i)).length + k : Nat) : Int) + 1 = ((n + (allParts g b r (rows.take i)).length + (k + 1) : Nat) : Int) by omega)
        · rw [List.range_succ, List.map_append, ← List.append_assoc]
          exact WrA.put eo5 (hw5.app (.one hWr))
      · rintro σ G3 ⟨ws, x7, rfl, s3, eo3, hw3⟩
        rw [Int.toNat_natCast] at hw3 ⊢
        have hw4 : WrA K G3 ws n (allParts g b r (rows.take (i + 1))) := by rw [htk]; exact hw3
        have hl4 : (allParts g b r (rows.take (i + 1))).length = (allParts g b r (rows.take i)).length + pc row.length := by rw [htk, List.length_append, hpl]
        refine ⟨_, rfl, _, _, rfl, rfl, ?_⟩
        refine ⟨ws, some (.ref p), x7, ?_, s3, eo3, hw4⟩
        rw [hl4, ← Nat.add_assoc]
        rfl
    · rintro σ G ⟨ws, x6, x7, rfl, s2, eo2, hw⟩
      rw [show xs.length = rows.length from hR.1, List.take_length] at hw
      exact ⟨_, rfl, q po ws G hpo s2 eo2 hw⟩
end
end My
namespace My
open PySem PySem.Spec PyProof.Rows L2
theorem putF_le {f : Str} {v : V} {fs : List (Str × V)} {n : Nat} (h : fs.length ≤ n) : (putF f v fs).length ≤ n + 1 := by
  induction fs generalizing n with
  | nil => simp [putF]
  | cons p r ih =>
    unfold putF
    split
    · simp only [List.length_cons] at h ⊢
      omega
    · simp only [List.length_cons] at h ⊢
      have := ih (n := n - 1) (by omega)
      omega
theorem putF_lt {fs : List (Str × V)} {n : Nat} (h : fs.length ≤ n) (g : n < 1000) : fs.length < 1000 := by omega
/-! frames: what is no list and no instance stands -/
def mutK : HO → Bool
  | .lst _ => true
  | .ins .. => true
  | _ => false
def FT (H H' : Hp) : Prop := ∀ x o, H x = some o → mutK o = false → H' x = some o
theorem FT.refl (H : Hp) : FT H H := fun _ _ h _ => h
theorem FT.trans {G H J : Hp} (a : FT G H) (b : FT H J) : FT G J := fun x o h n => b x o (a x o h n) n
theorem FT.same {H J : Hp} (a : Same H J) : FT H J := fun x o h _ => a x o h
theorem FT.up {H : Hp} {a : Addr} {o u : HO} (h : H a = some o) (i : mutK o = true) : FT H (upd H a u) := fun x w hx n => by
  rw [upd_ne (fun z => by rw [z, h] at hx; cases hx; rw [i] at n; cases n)]
  exact hx
theorem sqt_ft {K : PySem.W.Frag} {H H' : Hp} {a : Addr} {xs : List V} (f : FT H H') (h : SqT K H a xs) : SqT K H' a xs := by
  rcases h with (h | ⟨o, h⟩) | h
  · exact .inl (.inl (f _ _ h rfl))
  · exact .inl (.inr ⟨o, f _ _ h rfl⟩)
  · exact .inr h
mutual
theorem dp_ft {K : PySem.W.Frag} {H H' : Hp} (f : FT H H') : ∀ (n : Nat) (d : PyData) {v : V}, okV n d = true → Dp K H v d → Dp K H' v d
  | _, _, _, _, .non => .non
  | _, _, _, _, .bl b => .bl b
  | _, _, _, _, .int i => .int i
  | _, _, _, _, .str x => .str x
  | n, .list ds, _, o, .lst h a => by rw [okV_lst] at o; cases o
  | 0, .tuple ds, _, o, .tup h a => by rw [okV_tup0] at o; cases o
  | n + 1, .tuple ds, _, o, .tup h a => .tup (sqt_ft f h) (dpa_ft f n ds (by rw [okV_tup, Bool.and_eq_true] at o; exact o.2) a)
theorem dpa_ft {K : PySem.W.Frag} {H H' : Hp} (f : FT H H') : ∀ (n : Nat) (ds : List PyData) {vs : List V}, okA n ds = true → DpAll K H vs ds → DpAll K H' vs ds
  | _, [], _, _, .nil => .nil
  | n, d :: ds, _, o, .cons h a => by
    simp only [okA, Bool.and_eq_true] at o
    exact .cons (dp_ft f n d o.1 h) (dpa_ft f n ds o.2 a)
end
theorem Sv.ft {K : PySem.W.Frag} {H H' : Hp} {v : V} {s : Sc} (f : FT H H') (h : Sv K H v s) : Sv K H' v s := by
  obtain ⟨p, rfl, h⟩ := h
  exact ⟨p, rfl, sqt_ft f h⟩
theorem SvA.ft {K : PySem.W.Frag} {H H' : Hp} {vs : List V} {D : List Sc} (f : FT H H') (h : SvA K H vs D) : SvA K H' vs D :=
  ⟨h.l, fun i s hs => by obtain ⟨v, hv, g⟩ := h.a i s hs; exact ⟨v, hv, g.ft f⟩, h.o⟩
theorem WrA.ft {K : PySem.W.Frag} {H H' : Hp} {ws : List V} {n : Nat} {ss : List Sc} (f : FT H H') (h : WrA K H ws n ss) : WrA K H' ws n ss :=
  ⟨h.l, fun i s hs => by obtain ⟨v, hv, p, q, rfl, h1, h2⟩ := h.a i s hs; exact ⟨_, hv, p, q, rfl, sqt_ft f h1, sqt_ft f h2⟩⟩
/-- all but these stand as they stood -/
def Fr (L : List Addr) (H H' : Hp) : Prop := ∀ x o, H x = some o → x ∉ L → H' x = some o
theorem Fr.refl (L : List Addr) (H : Hp) : Fr L H H := fun _ _ h _ => h
theorem Fr.trans {L : List Addr} {H H' H2 : Hp} (h : Fr L H H') (g : Fr L H' H2) : Fr L H H2 := fun x o e n => g x o (h x o e n) n
theorem Fr.same {L : List Addr} {H H' : Hp} (h : Same H H') : Fr L H H' := fun x o e _ => h x o e
theorem Fr.up {L : List Addr} {H H' : Hp} {a : Addr} {o : HO} (h : Fr L H H') (ha : a ∈ L) : Fr L H (upd H' a o) := fun x u e n => by
  rw [upd_ne (fun z => n (by rw [z]; exact ha))]
  exact h x u e n
theorem Fr.new {L : List Addr} {H H' : Hp} {a : Addr} {o : HO} (h : Fr L H H') (ha : H a = none) : Fr L H (upd H' a o) := fun x u e n => by
  rw [upd_ne (fun z => by rw [z, ha] at e; cases e)]
  exact h x u e n
theorem Fr.mono {L M : List Addr} {H H' : Hp} (h : Fr L H H') (hm : ∀ x ∈ L, x ∈ M) : Fr M H H' := fun x u e n => h x u e fun z => n (hm x z)
theorem sql_fr1 {K : PySem.W.Frag} {L : List Addr} {H H' : Hp} {a : Addr} {xs : List V} (f : Fr L H H') (n : a ∉ L) (h : SqL K H a xs) : SqL K H' a xs := by
  rcases h with (h | ⟨o, h⟩) | h
  · exact .inl (.inl (f _ _ h n))
  · exact .inl (.inr ⟨o, f _ _ h n⟩)
  · exact .inr h
/-! a journal -/
structure JS where
  boot : Nat
  gen : Nat
  start : Nat
  used : Nat
  recs : List PyData
def GoodD (d : PyData) : Prop := okV 20 d = true ∧ (pkL d).length ≤ 40000
def flJ (j : JS) (l : Addr) : List (Str × V) := fl_Journal (.int (j.boot : Int)) (.int (j.gen : Int)) (.int (j.start : Int)) (.int (j.used : Int)) (.ref l)
structure JAt (C : Addr) (K : PySem.W.Frag) (H : Hp) (p l : Addr) (j : JS) : Prop where
  ob : ∃ dx, H p = some (.ins C dx (flJ j l))
  rl : ∃ vs, H l = some (.lst vs) ∧ DpAll K H vs j.recs
  g : ∀ d ∈ j.recs, GoodD d
theorem okA_all {n : Nat} : ∀ {ds : List PyData}, (∀ d ∈ ds, okV n d = true) → okA n ds = true
  | [], _ => rfl
  | d :: ds, h => by simp only [okA, Bool.and_eq_true]; exact ⟨h d (by simp), okA_all fun e he => h e (by simp [he])⟩
theorem dpa_good {K : PySem.W.Frag} {H H' : Hp} {vs : List V} {ds : List PyData} (f : FT H H') (g : ∀ d ∈ ds, GoodD d) (h : DpAll K H vs ds) : DpAll K H' vs ds := dpa_ft f 20 ds (okA_all fun d hd => (g d hd).1) h
theorem JAt.fr {C : Addr} {K : PySem.W.Frag} {H H' : Hp} {p l : Addr} {j : JS} {L : List Addr} (h : JAt C K H p l j) (f : Fr L H H') (t : FT H H') (hp : p ∉ L) (hl : l ∉ L) : JAt C K H' p l j := by
  obtain ⟨⟨dx, h1⟩, ⟨vs, h2, h3⟩, h4⟩ := h
  exact ⟨⟨dx, f _ _ h1 hp⟩, ⟨vs, f _ _ h2 hl, dpa_good t h4 h3⟩, h4⟩
theorem JAt.ne {C : Addr} {K : PySem.W.Frag} {H : Hp} {p l : Addr} {j : JS} (h : JAt C K H p l j) : p ≠ l := fun z => by
  obtain ⟨⟨dx, h1⟩, ⟨vs, h2, _⟩, _⟩ := h
  rw [z, h2] at h1
  cases h1
inductive Reads (D : List Sc) (gen start : Nat) : Nat → Nat → Nat → List PyData → Nat → Prop
  | nil {u i b : Nat} : rdRec D (start + u) gen i b = none → Reads D gen start u i b [] u
  | cons {u i b b' u' : Nat} {d : PyData} {ds : List PyData} : rdRec D (start + u) gen i b = some (b', pkL d) → GoodD d → Reads D gen start (u + pc (pkL d).length) (i + 1) b' ds u' → Reads D gen start u i b (d :: ds) u'
def FoundV (l : Addr) (G : Hp) (x : V) : Option (Nat × List Int) → Prop
  | none => x = .non
  | some (b, row) => ∃ pf lr, x = .ref pf ∧ G pf = some (.tup [.int (b : Int), .ref lr]) ∧ G lr = some (.lst (row.map V.int)) ∧ lr ≠ l
theorem rrec_use {K : PySem.W.Frag} {vs : List V} {H : Hp} {Q : VK} {E : XK} {a l : Addr} {xs : List V} {D : List Sc} {i g r least : Nat} (hv : vs = [.ref a, .int (i : Int), .int (g : Int), .int (r : Int), .int (least : Int)]) (hS : SqL K H a xs) (hD : SvA K H xs D) (hl : ∃ o, H l = some o)
    (k : ∀ x H', Same H H' → FoundV l H' x (rdRec D i g r least) → Q x H') : sp_rrec K vs H Q E := by
  refine ⟨a, xs, D, i, g, r, least, hv, hS, hD, ?_⟩
  cases e : rdRec D i g r least with
  | none => exact fun H' s => k .non H' s (by rw [e]; rfl)
  | some br =>
    obtain ⟨b, row⟩ := br
    intro p lr H' s e1 e2 e3
    refine k _ H' s ?_
    rw [e]
    exact ⟨p, lr, rfl, e1, e2, fun z => by obtain ⟨o, hl⟩ := hl; rw [← z, e3] at hl; cases hl⟩
theorem args5 {a : Addr} {x x' g r r' b : Int} (h1 : x = x') (h2 : r = r') : [V.ref a, V.int x, V.int g, V.int r, V.int b] = [V.ref a, V.int x', V.int g, V.int r', V.int b] := by rw [h1, h2]
def sp_rrecs (C : Addr) (K : PySem.W.Frag) : Sp := fun vs H Q _ => ∃ (p l a : Addr) (xs : List V) (D : List Sc) (j : JS) (least u : Nat) (ds : List PyData), vs = [.ref p, .ref a, .int (least : Int)] ∧ JAt C K H p l j ∧ H a = some (.lst xs) ∧ a ≠ l ∧ SvA K H xs D ∧ j.recs = [] ∧ j.used = 0 ∧ Reads D j.gen j.start j.used 0 least ds u ∧ ds.length ≤ 2000 ∧
  ∀ H', Fr [p, l] H H' → FT H H' → JAt C K H' p l { j with used := u, recs := ds } → Q .non H'
def sp_jinit (C : Addr) (K : PySem.W.Frag) : Sp := fun vs H Q _ => ∃ (p a dx : Addr) (xs : List V) (D : List Sc) (boot u : Nat) (ds : List PyData), vs = [.ref p, .ref a, .int (boot : Int)] ∧ H p = some (.ins C dx []) ∧ H a = some (.lst xs) ∧ SvA K H xs D ∧ (∀ i, i < 2 → isHd (scAt D i)) ∧ Reads D (nwF D 2).1 (nwF D 2).2.1 0 0 (nwF D 2).2.2 ds u ∧ ds.length ≤ 2000 ∧
  ∀ l H', H l = none → Fr [p] H H' → FT H H' → JAt C K H' p l ⟨boot, (nwF D 2).1, (nwF D 2).2.1, u, ds⟩ → Q .non H'
def sp_jrecs (C : Addr) (K : PySem.W.Frag) : Sp := fun vs H Q _ => ∃ (p l : Addr) (j : JS), vs = [.ref p] ∧ JAt C K H p l j ∧ ∀ q vs H', H q = none → Same H H' → H' q = some (.lst vs) → DpAll K H' vs j.recs → Q (.ref q) H'
def sp_jused (C : Addr) (K : PySem.W.Frag) : Sp := fun vs H Q _ => ∃ (p l : Addr) (j : JS), vs = [.ref p] ∧ JAt C K H p l j ∧ Q (.int (j.used : Int)) H
section
variable {P : Program} {w : World} {K : PySem.W.Frag} {mg : Str → Option Value} {base : Heap}
theorem ok_Journal_sectors_used (T : TX K mg) : FnOk P w K mg base CX0 1 T.a_Journal_sectors_used T.d_Journal_sectors_used ["self"] (sp_jused T.a_Journal K) := by
  refine T.F_Journal_sectors_used.ok sc_Journal_sectors_used (fun vs H Q E h => ?_) (fun cdv A outer s H vs Q E hr h => ?_)
  · obtain ⟨p, l, j, rfl, _⟩ := h
    rfl
  · obtain ⟨p, l, j, rfl, hJ, q⟩ := h
    refine ⟨_, (pss_one (ps_ret (pe_fld (pv 0) rfl))), ?_⟩
    obtain ⟨dx, ob⟩ := hJ.ob
    exact ⟨_, rfl, p, T.a_Journal, dx, _, _, rfl, ob, T.K_Journal, T.na_Journal__used, fl_Journal__used, q⟩
theorem ok_Journal_records (T : TX K mg) : FnOk P w K mg base CX0 1 T.a_Journal_records T.d_Journal_records ["self"] (sp_jrecs T.a_Journal K) := by
  refine T.F_Journal_records.ok sc_Journal_records (fun vs H Q E h => ?_) (fun cdv A outer s H vs Q E hr h => ?_)
  · obtain ⟨p, l, j, rfl, _⟩ := h
    rfl
  · obtain ⟨p, l, j, rfl, hJ, q⟩ := h
    refine ⟨_, (pss_one (ps_ret (pe_callTy call_list_of (by rfl) T.n_list (by decide +kernel) (pa_cons (pe_fld (pv 0) rfl) pa_nil)))), ?_⟩
    obtain ⟨dx, ob⟩ := hJ.ob
    obtain ⟨vs, hl, hd⟩ := hJ.rl
    exact ⟨_, rfl, p, T.a_Journal, dx, _, _, rfl, ob, T.K_Journal, T.na_Journal__records, fl_Journal__records, l, vs, rfl, .inl (sql hl), fun r hr => q r vs _ hr (same_upd hr) upd_same (dpa_same (same_upd hr) _ hd)⟩
theorem ok_Journal__read_records (T : TX K mg) : FnOk P w K mg base CX0 45 T.a_Journal__read_records T.d_Journal__read_records ["self", "sectors", "least_boot"] (sp_rrecs T.a_Journal K) := by
  refine T.F_Journal__read_records.ok sc_Journal__read_records (fun vs H Q E h => ?_) (fun cdv A outer s H vs Q E hr h => ?_)
  · obtain ⟨p, l, a, xs, D, j, least, u, ds, rfl, _⟩ := h
    rfl
  · obtain ⟨p, l, a, xs, D, j, least, u, ds, rfl, hJ, hS, hal, hD, hj0, hu0, hR, hlen, q⟩ := h
    refine ⟨_, (pss_cons (ps_set (i := 3) sc_Journal__read_records.nd rfl (Or.inl rfl) (pe_call (ok__read_record T) (hr.mono (by decide)) (by rfl) T.g__read_record T.F__read_record.kp T.b__read_record .nil pass0 (pa_cons (pv 1) (pa_cons (pe_fld (pv 0) rfl) (pa_cons (pe_fld (pv 0) rfl) (pa_cons pe_int (pa_cons (pv 2) pa_nil)))))))
      (pss_one (ps_while PassesOwn.never (pt_cmpR op_notN (pv 3) pe_non (nomark _))
        (pss_cons (ps_asg (pv 3) (pg_tup (by rfl) (pgs_cons (pg_name (i := 2) sc_Journal__read_records.nd rfl (Or.inl rfl)) (pgs_cons (pg_name (i := 4) sc_Journal__read_records.nd rfl (Or.inl rfl)) pgs_nil))))
        (pss_cons (ps_expr (pe_bm PySem.F.plainAttrs_list PySem.F.slot_list_append PySem.F.type_list_append mt_append (pe_fld (pv 0) rfl) (pa_cons (pe_call (ok_unpack T) (hr.mono (by decide)) (by rfl) T.g_unpack T.F_unpack.kp T.b_unpack .nil passL (pa_cons (pv 4) pa_nil)) pa_nil)))
        (pss_cons (ps_fldaug (pv 0) (pe_call (ok__piece_count T) (hr.mono (by decide)) (by rfl) T.g__piece_count T.F__piece_count.kp T.b__piece_count .nil pass0 (pa_cons (pv 4) pa_nil)) in_add)
        (pss_cons (ps_set (i := 5) sc_Journal__read_records.nd rfl (Or.inl rfl) (pe_op op_add (pe_fld (pv 0) rfl) (pe_fld (pv 0) rfl)))
        (pss_one (ps_set (i := 3) sc_Journal__read_records.nd rfl (Or.inl rfl) (pe_call (ok__read_record T) (hr.mono (by decide)) (by rfl) T.g__read_record T.F__read_record.kp T.b__read_record .nil pass0 (pa_cons (pv 1) (pa_cons (pv 5) (pa_cons (pe_fld (pv 0) rfl) (pa_cons (pe_callB call_len_seq (by rfl) T.n_len PySem.boot_len (pa_cons (pe_fld (pv 0) rfl) pa_nil)) (pa_cons (pv 2) pa_nil))))))))))))))), ?_⟩
    obtain ⟨boot, gen, start, used, recs⟩ := j
    dsimp only at hj0 hu0 hR q
    subst hj0 hu0
    obtain ⟨⟨dx, ob⟩, ⟨vs0, rl, rd0⟩, _⟩ := hJ
    cases rd0
    have ob : H p = some (.ins T.a_Journal dx (fl_Journal (.int (boot : Int)) (.int (gen : Int)) (.int (start : Int)) (.int ((0 : Nat) : Int)) (.ref l))) := ob
    have npl : p ≠ l := fun z => by rw [z, rl] at ob; cases ob
    have nap : a ≠ p := fun z => by rw [z, ob] at hS; cases hS
    refine ⟨_, rfl, _, rfl, p, T.a_Journal, dx, _, _, rfl, ob, T.K_Journal, T.na_Journal__start, fl_Journal__start, _, rfl, p, T.a_Journal, dx, _, _, rfl, ob, T.K_Journal, T.na_Journal__generation, fl_Journal__generation, _, rfl, ?_⟩
    dsimp only [tNil]
    refine rrec_use (i := start) (g := gen) (r := 0) (least := least) (l := l) (by rfl) (sql hS) hD ⟨_, rl⟩ fun x H1 s1 hf => ?_
    refine while_by (fun σ G => ∃ (done rest : List PyData) (vs : List V) (b u' : Nat) (x3 : V) (x4 x5 : Option V), σ = [some (.ref p), some (.ref a), some (.int (b : Int)), some x3, x4, x5] ∧ Fr [p, l] H G ∧ FT H G ∧ G p = some (.ins T.a_Journal dx (fl_Journal (.int (boot : Int)) (.int (gen : Int)) (.int (start : Int)) (.int (u' : Int)) (.ref l))) ∧ G l = some (.lst vs) ∧ DpAll K G vs done ∧ (∀ d ∈ done, GoodD d) ∧ done ++ rest = ds ∧ Reads D gen start u' done.length b rest u ∧ FoundV l G x3 (rdRec D (start + u') gen done.length b))
      (fun _ G => match G l with | some (.lst vs) => ds.length + 1 - vs.length | _ => 0)
      ⟨[], ds, [], least, 0, x, none, none, rfl, Fr.same s1, FT.same s1, s1 _ _ ob, s1 _ _ rl, .nil, (fun d hd => by cases hd), rfl, hR, hf⟩ ?_ (fun σ H Q Q' hq ⟨v, h1, h2, b, h3, h4⟩ => ⟨v, h1, h2, b, h3, hq _ _ h4⟩)
    rintro σ G ⟨done, rest, vs, b, u', x3, x4, x5, rfl, fr, ft, oG, lG, hdp, hgood, hdr, hRd, hF⟩
    have haG : G a = some (.lst xs) := fr _ _ hS (by simp [nap, hal])
    have hDG := hD.ft ft
    have hvl := dpa_len hdp
    cases hRd with
    | nil hnone =>
      rw [hnone] at hF
      obtain rfl : x3 = .non := hF
      rw [List.append_nil] at hdr
      subst hdr
      refine ⟨_, rfl, rfl, _, rfl, ?_⟩
      rw [decide_eq_true rfl]
      refine ifbf rfl ?_
      exact q G fr ft ⟨⟨dx, oG⟩, ⟨vs, lG, hdp⟩, hgood⟩
    | @cons _ _ _ b' _ d rest' hsome hgd hRd' =>
      rw [hsome] at hF
      obtain ⟨pf, lr, rfl, ef, er, nrl⟩ := hF
      have nrp : lr ≠ p := fun z => by rw [z, oG] at er; cases er
      have hdl : done.length < ds.length := by rw [← hdr, List.length_append, List.length_cons]; omega
      refine ⟨_, rfl, rfl, _, rfl, ?_⟩
      rw [decide_eq_false (by intro z; cases z)]
      refine ifbt rfl ?_
      refine ⟨_, rfl, pf, _, rfl, sqt ef, rfl, .int (b' : Int), [.ref lr], rfl, .ref lr, [], rfl, rfl, ?_⟩
      have hby := pk_bytes 20 d hgd.1
      have htv := tv_pk 20 d [] hgd.1
      rw [List.append_nil] at htv
      refine ⟨_, rfl, p, T.a_Journal, dx, _, _, rfl, oG, T.K_Journal, T.na_Journal__records, fl_Journal__records, .inl ⟨rfl, _, sql lG⟩, _, rfl, lr, pkL d, rfl, sql er, hby, by have := hgd.2; omega, ?_⟩
      rw [htv]
      dsimp only
      rw [if_neg (Nat.lt_irrefl _)]
      intro v G2 s2 hv
      have lG2 := s2 _ _ lG
      have oG2 := s2 _ _ oG
      have er2 := s2 _ _ er
      refine ⟨l, vs, v, rfl, rfl, lG2, szl (by omega), ?_⟩
      have ftu : FT G2 (upd G2 l (.lst (vs ++ [v]))) := .up lG2 rfl
      have eu : (upd G2 l (.lst (vs ++ [v]))) l = some (.lst (vs ++ [v])) := upd_same
      have hdp3 : DpAll K (upd G2 l (.lst (vs ++ [v]))) (vs ++ [v]) (done ++ [d]) := dpa_app (dpa_good (ds := done) ((FT.same s2).trans ftu) hgood hdp) (.cons (dp_ft ftu 20 d hgd.1 hv) .nil)
      have oG3 : (upd G2 l (.lst (vs ++ [v]))) p = _ := (upd_ne npl).trans oG2
      have er3 : (upd G2 l (.lst (vs ++ [v]))) lr = _ := (upd_ne nrl).trans er2
      have fr3 : Fr [p, l] H (upd G2 l (.lst (vs ++ [v]))) := (fr.trans (Fr.same s2)).up (by simp)
      have ft3 := (ft.trans (FT.same s2)).trans ftu
      generalize upd G2 l (.lst (vs ++ [v])) = G3 at ftu eu hdp3 oG3 er3 fr3 ft3
      refine ⟨_, rfl, p, T.a_Journal, dx, _, _, rfl, oG3, T.K_Journal, T.na_Journal__used, fl_Journal__used, _, rfl, lr, pkL d, rfl, sql er3, ?_⟩
      refine ⟨_, _, rfl, rfl, dx, _, oG3, (by show 5 < 1000; decide), ?_⟩
      rw [pf_Journal__used]
      have eu4 : (u' : Int) + (pc (pkL d).length : Int) = ((u' + pc (pkL d).length : Nat) : Int) := by omega
      rw [eu4]
      have oG4 : (upd G3 p (.ins T.a_Journal dx (fl_Journal (.int (boot : Int)) (.int (gen : Int)) (.int (start : Int)) (.int ((u' + pc (pkL d).length : Nat) : Int)) (.ref l)))) p = some (.ins T.a_Journal dx (fl_Journal (.int (boot : Int)) (.int (gen : Int)) (.int (start : Int)) (.int ((u' + pc (pkL d).length : Nat) : Int)) (.ref l))) := upd_same
      have ftp : FT G3 (upd G3 p (.ins T.a_Journal dx (fl_Journal (.int (boot : Int)) (.int (gen : Int)) (.int (start : Int)) (.int ((u' + pc (pkL d).length : Nat) : Int)) (.ref l)))) := .up oG3 rfl
      have fr4 : Fr [p, l] H (upd G3 p (.ins T.a_Journal dx (fl_Journal (.int (boot : Int)) (.int (gen : Int)) (.int (start : Int)) (.int ((u' + pc (pkL d).length : Nat) : Int)) (.ref l)))) := fr3.up (by simp)
      have lG4 : (upd G3 p (.ins T.a_Journal dx (fl_Journal (.int (boot : Int)) (.int (gen : Int)) (.int (start : Int)) (.int ((u' + pc (pkL d).length : Nat) : Int)) (.ref l)))) l = some (.lst (vs ++ [v])) := (upd_ne npl.symm).trans eu
      have hgood4 : ∀ e ∈ done ++ [d], GoodD e := fun e he => by
        rcases List.mem_append.mp he with h | h
        · exact hgood e h
        · rw [List.mem_singleton.mp h]; exact hgd
      have hdp4 := dpa_good ftp hgood4 hdp3
      have ft4 := ft3.trans ftp
      generalize upd G3 p (.ins T.a_Journal dx (fl_Journal (.int (boot : Int)) (.int (gen : Int)) (.int (start : Int)) (.int ((u' + pc (pkL d).length : Nat) : Int)) (.ref l))) = G4 at oG4 ftp fr4 lG4 hdp4 ft4
      refine ⟨_, rfl, p, T.a_Journal, dx, _, _, rfl, oG4, T.K_Journal, T.na_Journal__start, fl_Journal__start, _, rfl, p, T.a_Journal, dx, _, _, rfl, oG4, T.K_Journal, T.na_Journal__used, fl_Journal__used, _, _, rfl, rfl, ?_⟩
      refine ⟨_, rfl, _, rfl, _, rfl, p, T.a_Journal, dx, _, _, rfl, oG4, T.K_Journal, T.na_Journal__generation, fl_Journal__generation, _, rfl, p, T.a_Journal, dx, _, _, rfl, oG4, T.K_Journal, T.na_Journal__records, fl_Journal__records, l, _, rfl, .inl (sql lG4), _, rfl, ?_⟩
      dsimp only [tNil]
      have haG4 : G4 a = some (.lst xs) := fr4 _ _ hS (by simp [nap, hal])
      have hl1 : (((vs ++ [v]).length : Nat) : Int) = ((done.length + 1 : Nat) : Int) := by rw [List.length_append, hvl]; rfl
      refine rrec_use (i := start + (u' + pc (pkL d).length)) (g := gen) (r := done.length + 1) (least := b') (l := l) (args5 (by omega) hl1) (sql haG4) (hD.ft ft4) ⟨_, lG4⟩ fun x5' G5 s5 hf5 => ?_
      refine ⟨⟨done ++ [d], rest', vs ++ [v], b', u' + pc (pkL d).length, x5', _, _, rfl, fr4.trans (Fr.same s5), ft4.trans (FT.same s5), s5 _ _ oG4, s5 _ _ lG4, dpa_same s5 _ hdp4, hgood4, by rw [List.append_assoc]; exact hdr, ?_, ?_⟩, ?_⟩
      · rw [List.length_append]; exact hRd'
      · rw [List.length_append]; exact hf5
      · have e6 := s5 _ _ lG4
        rw [e6, lG]
        dsimp only
        rw [List.length_append]
        simp only [List.length_cons, List.length_nil]
        omega
theorem ok_Journal___init__ (T : TX K mg) : FnOk P w K mg base CX0 46 T.a_Journal___init__ T.d_Journal___init__ ["self", "sectors", "boot"] (sp_jinit T.a_Journal K) := by
  refine T.F_Journal___init__.ok sc_Journal___init__ (fun vs H Q E h => ?_) (fun cdv A outer s H vs Q E hr h => ?_)
  · obtain ⟨p, a, dx, xs, D, boot, u, ds, rfl, _⟩ := h
    rfl
  · obtain ⟨p, a, dx, xs, D, boot, u, ds, rfl, ob, hS, hD, hhd, hR, hlen, q⟩ := h
    refine ⟨_, (pss_cons (ps_asg (pe_call (ok__newest_head T) (hr.mono (by decide)) (by rfl) T.g__newest_head T.F__newest_head.kp T.b__newest_head .nil pass0 (pa_cons (pv 1) pa_nil)) (pg_tup (by rfl) (pgs_cons (pg_name (i := 3) sc_Journal___init__.nd rfl (Or.inl rfl)) (pgs_cons (pg_name (i := 4) sc_Journal___init__.nd rfl (Or.inl rfl)) (pgs_cons (pg_name (i := 5) sc_Journal___init__.nd rfl (Or.inl rfl)) pgs_nil)))))
      (pss_cons (ps_fld (pv 0) (pv 2) rfl)
      (pss_cons (ps_fld (pv 0) (pv 3) rfl)
      (pss_cons (ps_fld (pv 0) (pv 4) rfl)
      (pss_cons (ps_fld (pv 0) pe_int rfl)
      (pss_cons (ps_fld (pv 0) (pe_lst pa_nil) rfl)
      (pss_one (ps_expr (pe_meth (pv 0) T.K_Journal T.m_Journal__read_records (ok_Journal__read_records T) (hr.mono (by decide)) T.b_Journal__read_records .nil pass0 (pa_cons (pv 1) (pa_cons (pv 5) pa_nil))))))))))), ?_⟩
    have nap : a ≠ p := fun z => by rw [z, ob] at hS; cases hS
    refine ⟨_, rfl, a, xs, D, rfl, sql hS, hD, hhd, fun pn H1 s1 hn => ?_⟩
    have ob1 := s1 _ _ ob
    refine ⟨pn, _, rfl, hn, rfl, .int ((nwF D 2).1 : Int), _, rfl, .int ((nwF D 2).2.1 : Int), _, rfl, .int ((nwF D 2).2.2 : Int), [], rfl, rfl, ?_⟩
    generalize nwF D 2 = nw at hR q
    refine ⟨_, rfl, _, rfl, p, T.a_Journal, dx, _, rfl, ob1, T.K_Journal, T.na_Journal__boot, (by show 0 < 1000; decide), ?_⟩
    refine ⟨_, rfl, _, rfl, p, T.a_Journal, dx, _, rfl, upd_same, T.K_Journal, T.na_Journal__generation, putF_lt (putF_le (Nat.le_refl 0)) (by decide), ?_⟩
    refine ⟨_, rfl, _, rfl, p, T.a_Journal, dx, _, rfl, upd_same, T.K_Journal, T.na_Journal__start, putF_lt (putF_le (putF_le (Nat.le_refl 0))) (by decide), ?_⟩
    refine ⟨_, rfl, p, T.a_Journal, dx, _, rfl, upd_same, T.K_Journal, T.na_Journal__used, putF_lt (putF_le (putF_le (putF_le (Nat.le_refl 0)))) (by decide), ?_⟩
    rw [upd_upd, upd_upd, upd_upd]
    refine ⟨Nat.zero_le _, fun l hl => ⟨_, rfl, p, T.a_Journal, dx, _, rfl, by rw [upd_ne (fun z => by rw [← z, upd_same] at hl; cases hl), upd_same], T.K_Journal, T.na_Journal__records, putF_lt (putF_le (putF_le (putF_le (putF_le (Nat.le_refl 0))))) (by decide), ?_⟩⟩
    rw [fl_Journal_new]
    have npl : p ≠ l := fun z => by rw [← z, upd_same] at hl; cases hl
    have hl1 : H1 l = none := by rw [upd_ne npl.symm] at hl; exact hl
    have fr2 : Fr [p] H (upd (upd (upd H1 p (.ins T.a_Journal dx (putF ("_used" : Str) (.int 0) (putF ("_start" : Str) (.int (nw.2.1 : Int)) (putF ("_generation" : Str) (.int (nw.1 : Int)) (putF ("_boot" : Str) (.int (boot : Int)) [])))))) l (.lst [])) p (.ins T.a_Journal dx (fl_Journal (.int (boot : Int)) (.int (nw.1 : Int)) (.int (nw.2.1 : Int)) (.int 0) (.ref l)))) := (((Fr.same s1).up (by simp)).new (none_of s1 hl1)).up (by simp)
    have ft2 : FT H (upd (upd (upd H1 p (.ins T.a_Journal dx (putF ("_used" : Str) (.int 0) (putF ("_start" : Str) (.int (nw.2.1 : Int)) (putF ("_generation" : Str) (.int (nw.1 : Int)) (putF ("_boot" : Str) (.int (boot : Int)) [])))))) l (.lst [])) p (.ins T.a_Journal dx (fl_Journal (.int (boot : Int)) (.int (nw.1 : Int)) (.int (nw.2.1 : Int)) (.int 0) (.ref l)))) := fun x o hx hm => by
      have n1 : x ≠ p := fun z => by rw [z, ob] at hx; cases hx; cases hm
      have n2 : x ≠ l := fun z => by rw [z, none_of s1 hl1] at hx; cases hx
      rw [upd_ne n1, upd_ne n2, upd_ne n1]
      exact s1 _ _ hx
    have oG : (upd (upd (upd H1 p (.ins T.a_Journal dx (putF ("_used" : Str) (.int 0) (putF ("_start" : Str) (.int (nw.2.1 : Int)) (putF ("_generation" : Str) (.int (nw.1 : Int)) (putF ("_boot" : Str) (.int (boot : Int)) [])))))) l (.lst [])) p (.ins T.a_Journal dx (fl_Journal (.int (boot : Int)) (.int (nw.1 : Int)) (.int (nw.2.1 : Int)) (.int 0) (.ref l)))) p = some (.ins T.a_Journal dx (fl_Journal (.int (boot : Int)) (.int (nw.1 : Int)) (.int (nw.2.1 : Int)) (.int 0) (.ref l))) := upd_same
    have lG : (upd (upd (upd H1 p (.ins T.a_Journal dx (putF ("_used" : Str) (.int 0) (putF ("_start" : Str) (.int (nw.2.1 : Int)) (putF ("_generation" : Str) (.int (nw.1 : Int)) (putF ("_boot" : Str) (.int (boot : Int)) [])))))) l (.lst [])) p (.ins T.a_Journal dx (fl_Journal (.int (boot : Int)) (.int (nw.1 : Int)) (.int (nw.2.1 : Int)) (.int 0) (.ref l)))) l = some (.lst []) := by rw [upd_ne npl.symm, upd_same]
    generalize upd (upd (upd H1 p (.ins T.a_Journal dx (putF ("_used" : Str) (.int 0) (putF ("_start" : Str) (.int (nw.2.1 : Int)) (putF ("_generation" : Str) (.int (nw.1 : Int)) (putF ("_boot" : Str) (.int (boot : Int)) [])))))) l (.lst [])) p (.ins T.a_Journal dx (fl_Journal (.int (boot : Int)) (.int (nw.1 : Int)) (.int (nw.2.1 : Int)) (.int 0) (.ref l))) = G at fr2 ft2 oG lG
    have hal : a ≠ l := fun z => by rw [z, none_of s1 hl1] at hS; cases hS
    refine ⟨_, rfl, p, dx, _, rfl, oG, fl_Journal_no__read_records, _, rfl, _, rfl, p, l, a, xs, D, ⟨boot, nw.1, nw.2.1, 0, []⟩, nw.2.2, u, ds, rfl, ⟨⟨dx, oG⟩, ⟨[], lG, .nil⟩, fun d hd => by cases hd⟩, fr2 _ _ hS (by simp [nap]), hal, hD.ft ft2, rfl, rfl, hR, hlen, fun H' fr ft hJ => ?_⟩
    refine q l H' (none_of s1 hl1) (fun x o hx hn => ?_) (ft2.trans ft) hJ
    have n1 : x ≠ p := by simpa using hn
    have n2 : x ≠ l := fun z => by rw [z, none_of s1 hl1] at hx; cases hx
    exact fr x o (fr2 x o hx hn) (by simp [n1, n2])
end
end My
namespace My
open PySem PySem.Spec PyProof.Rows L2
def SyV (K : PySem.W.Frag) (H : Hp) (v : V) : Prop := ∃ p, v = .ref p ∧ SqT K H p [.str "sync"]
def StA (K : PySem.W.Frag) (H : Hp) (us : List V) (n : Nat) (ss : List Sc) (sync : Bool) : Prop := ∃ ws, WrA K H ws n ss ∧ (match sync with | true => ∃ v, us = ws ++ [v] ∧ SyV K H v | false => us = ws)
theorem SyV.ft {K : PySem.W.Frag} {H H' : Hp} {v : V} (f : FT H H') (h : SyV K H v) : SyV K H' v := by
  obtain ⟨p, rfl, h⟩ := h
  exact ⟨p, rfl, sqt_ft f h⟩
theorem StA.ft {K : PySem.W.Frag} {H H' : Hp} {us : List V} {n : Nat} {ss : List Sc} {b : Bool} (f : FT H H') (h : StA K H us n ss b) : StA K H' us n ss b := by
  obtain ⟨ws, h1, h2⟩ := h
  refine ⟨ws, h1.ft f, ?_⟩
  cases b with
  | false => exact h2
  | true =>
    obtain ⟨v, h3, h4⟩ := h2
    exact ⟨v, h3, h4.ft f⟩
def RowsP (H : Hp) (vs : List V) (rows : List (List Int)) : Prop := vs.length = rows.length ∧ ∀ (i : Nat) (row : List Int), rows[i]? = some row → ∃ p, vs[i]? = some (.ref p) ∧ H p = some (.lst (row.map V.int))
theorem RowsP.same {H H' : Hp} {vs : List V} {rows : List (List Int)} (e : Same H H') (h : RowsP H vs rows) : RowsP H' vs rows :=
  ⟨h.1, fun i row hr => by obtain ⟨p, hv, g⟩ := h.2 i row hr; exact ⟨p, hv, e _ _ g⟩⟩
theorem RowsP.toA {K : PySem.W.Frag} {H : Hp} {vs : List V} {rows : List (List Int)} (h : RowsP H vs rows) : RowsA K H vs rows :=
  ⟨h.1, fun i row hr => by obtain ⟨p, hv, g⟩ := h.2 i row hr; exact ⟨p, hv, sql g⟩⟩
theorem RowsP.more {G : Hp} {D q : Addr} {vs : List V} {rows : List (List Int)} {row : List Int} (e : G D = some (.lst vs)) (h : RowsP G vs rows) (hq : G q = some (.lst (row.map V.int))) (n : q ≠ D) : RowsP (upd G D (.lst (vs ++ [.ref q]))) (vs ++ [.ref q]) (rows ++ [row]) := by
  refine ⟨by rw [List.length_append, List.length_append, h.1]; rfl, fun i r hr => ?_⟩
  by_cases hi : i < rows.length
  · rw [List.getElem?_append_left hi] at hr
    obtain ⟨p, hp, g⟩ := h.2 i r hr
    refine ⟨p, by rw [List.getElem?_append_left (by rw [h.1]; exact hi)]; exact hp, ?_⟩
    have np : p ≠ D := fun z => by
      rw [z, e] at g
      have e2 : vs = r.map V.int := by injection g with g; injection g
      have hlt : i < vs.length := (List.getElem?_eq_some_iff.mp hp).1
      rw [e2, List.length_map] at hlt
      rw [e2, List.getElem?_map, List.getElem?_eq_getElem hlt] at hp
      cases hp
    rw [upd_ne np]
    exact g
  · rw [List.getElem?_append_right (by omega)] at hr
    have hi2 : i - rows.length = 0 := by
      have := (List.getElem?_eq_some_iff.mp hr).1
      simp at this
      omega
    rw [hi2] at hr
    cases hr
    refine ⟨q, by rw [List.getElem?_append_right (by rw [h.1]; omega), h.1, hi2]; rfl, ?_⟩
    rw [upd_ne n]
    exact hq
theorem args5b {a : Addr} {x x' g r b b' : Int} (h1 : x = x') (h2 : b = b') : [V.ref a, V.int x, V.int g, V.int r, V.int b] = [V.ref a, V.int x', V.int g, V.int r, V.int b'] := by rw [h1, h2]
def newP (j : JS) (ds : List PyData) : List Sc := allParts j.gen j.boot j.recs.length (ds.map pkL)
def sp_japp (C : Addr) (K : PySem.W.Frag) : Sp := fun vs H Q _ => ∃ (p l a : Addr) (xs : List V) (j : JS) (ds : List PyData), vs = [.ref p, .ref a] ∧ JAt C K H p l j ∧ H a = some (.lst xs) ∧ a ≠ l ∧ DpAll K H xs ds ∧ (∀ d ∈ ds, GoodD d) ∧ j.recs.length + ds.length ≤ 2000 ∧ j.boot < 2097152 ∧ j.gen < 2097152 ∧ (newP j ds).length ≤ 50000 ∧
  ∀ q us H', H q = none → Fr [p, l] H H' → FT H H' → JAt C K H' p l { j with used := j.used + (newP j ds).length, recs := j.recs ++ ds } → H' q = some (.lst us) → StA K H' us (j.start + j.used) (newP j ds) (!ds.isEmpty) → Q (.ref q) H'
/-- a list with a thing in it that is no value: told, before anything is changed -/
def sp_jbad (K : PySem.W.Frag) (cN : Addr) : Sp := fun vs H _ E => ∃ (p a : Addr) (xs : List V) (ds : List PyData) (k : Nat) (b : PyData), vs = [.ref p, .ref a] ∧ H a = some (.lst xs) ∧ DxAll K H xs ds ∧ (∀ i d, ds[i]? = some d → i < k → GoodD d) ∧ ds[k]? = some b ∧ fits b = true ∧ okV 20 b = false ∧ ds.length ≤ 2000 ∧
  ∀ H', Same H H' → E (.ref cN) none H'
section
variable {P : Program} {w : World} {K : PySem.W.Frag} {mg : Str → Option Value} {base : Heap}
theorem ok_Journal_append (T : TX K mg) : FnOk P w K mg base (L2N.CX P w) 25 T.a_Journal_append T.d_Journal_append ["self", "records"] (fun vs H Q E => sp_japp T.a_Journal K vs H Q E ∨ sp_jbad K T.a_NotAValue vs H Q E) := by
  refine HotE.okN T.F_Journal_append sc_Journal_append (fun vs H Q E h => ?_) (fun cdv A outer s H vs Q E hr h => ?_)
  · rcases h with ⟨p, l, a, xs, j, ds, rfl, _⟩ | ⟨p, a, xs, ds, k, b, rfl, _⟩
    · rfl
    · rfl
  · rcases h with h | h
    · obtain ⟨p, l, a, xs, j, ds, rfl, hJ, hS, hal, hds, hgd, hlen, hb, hg, hnew, q⟩ := h
      refine ⟨_, (pss_cons (LcX.ps_setLcX (i := 2) (own := [("record", 5)]) (g := gName 5) (tt := tYes) (by rfl) sc_Journal_append.nd rfl rfl (sw_true rfl rfl rfl (by decide +kernel)) rfl rfl (L2N.takes_of rfl rfl rfl rfl) (pi_list (pv 1)) (blkOk_by (own := [("record", 5)]) (N := ["self", "records", "rows", "after", "steps", "record"]) (sc := defScope s_Journal_append) (by decide +kernel)) (fun _ _ _ _ _ _ => pg_name (i := 5) sc_Journal_append.nd rfl (Or.inl rfl)) (fun _ _ _ _ _ _ => pts_nil) (fun _ _ _ _ _ _ _ px => (pe_callS (ok_pack T) (hr.mono (by decide)) (by rfl) T.g_pack T.F_pack.kp T.b_pack px (pa_cons (pv 5) pa_nil))))
      (pss_cons (ps_if (pt_not (pt_truth (pv 2) (by intro _; rfl))) (pss_one (ps_ret (pe_lst pa_nil))) pss_nil)
      (pss_cons (ps_set (i := 3) sc_Journal_append.nd rfl (Or.inl rfl) (pe_op op_add (pe_fld (pv 0) rfl) (pe_fld (pv 0) rfl)))
      (pss_cons (ps_set (i := 4) sc_Journal_append.nd rfl (Or.inl rfl) (pe_call (ok__part_writes T) (hr.mono (by decide)) (by rfl) T.g__part_writes T.F__part_writes.kp T.b__part_writes .nil pass0 (pa_cons (pv 2) (pa_cons (pv 3) (pa_cons (pe_fld (pv 0) rfl) (pa_cons (pe_fld (pv 0) rfl) (pa_cons (pe_callB call_len_seq (by rfl) T.n_len PySem.boot_len (pa_cons (pe_fld (pv 0) rfl) pa_nil)) pa_nil)))))))
      (pss_cons (ps_expr (pe_bm PySem.F.plainAttrs_list PySem.F.slot_list_extend PySem.F.type_list_extend mt_extend (pe_fld (pv 0) rfl) (pa_cons (pe_callTy call_list_of (by rfl) T.n_list (by decide +kernel) (pa_cons (pv 1) pa_nil)) pa_nil)))
      (pss_cons (ps_fldaug (pv 0) (pe_callB call_len_seq (by rfl) T.n_len PySem.boot_len (pa_cons (pv 4) pa_nil)) in_add)
      (pss_one (ps_ret (pe_op op_cat (pv 4) (pe_lst (pa_cons (pe_tup (pa_cons pe_str pa_nil)) pa_nil))))))))))), ?_⟩
      obtain ⟨⟨dx, ob⟩, ⟨vs0, hl0, hd0⟩, hg0⟩ := hJ
      have ob : H p = some (.ins T.a_Journal dx (fl_Journal (.int (j.boot : Int)) (.int (j.gen : Int)) (.int (j.start : Int)) (.int (j.used : Int)) (.ref l))) := ob
      have npl : p ≠ l := fun z => by rw [z, hl0] at ob; cases ob
      have nap : a ≠ p := fun z => by rw [z, ob] at hS; cases hS
      have hxl := dpa_len hds
      have h0l := dpa_len hd0
      refine ⟨_, rfl, a, rfl, ⟨_, sql hS⟩, fun D hD => ?_⟩
      refine lc_list (K := K) (a := a) (xs := xs) (fun i G => Same H G ∧ ∃ vs, G D = some (.lst vs) ∧ RowsP G vs ((ds.take i).map pkL)) ⟨same_upd hD, [], upd_same, rfl, fun i r hr => by simp at hr⟩ (fun i G _ h => h.1.seq (sql hS)) ?_ ?_
      · rintro i x G hx ⟨s1, vs, eD, hR⟩
        obtain ⟨d, hdi, hdx⟩ := dpa_at hds hx
        have hdg := hgd d (List.mem_of_getElem? hdi)
        refine ⟨rfl, ?_⟩
        dsimp only [tYes]
        refine (if_pos rfl).mpr ?_
        refine ⟨_, rfl, x, d, rfl, dp_dx 20 d hdg.1 (dp_same s1 _ hdx), okV_fits 20 d hdg.1, fun _ => ⟨by have := hdg.2; omega, fun q' G2 hq' s2 e2 => ?_⟩, fun z => by rw [hdg.1] at z; cases z⟩
        have eD2 := s2 _ _ eD
        have hvl := hR.1
        rw [List.length_map, List.length_take] at hvl
        refine ⟨vs, eD2, szl (by omega), same_put (s1.trans s2) hD, vs ++ [.ref q'], upd_same, ?_⟩
        rw [take_more hdi, List.map_append]
        exact RowsP.more eD2 (hR.same s2) e2 (fun z => by rw [z, eD] at hq'; cases hq')
      · rintro G ⟨s1, vs, eD, hR⟩
        rw [hxl, List.take_length] at hR
        have obG := s1 _ _ ob
        have lG := s1 _ _ hl0
        have aG := s1 _ _ hS
        have hvl := hR.1
        rw [List.length_map] at hvl
        refine ⟨_, rfl, (!vs.isEmpty), .inl ⟨vs, sql eD, rfl⟩, ?_⟩
        cases hds' : ds with
        | nil =>
          subst hds'
          have hv0 : vs = [] := List.length_eq_zero_iff.mp hvl
          subst hv0
          refine ifbt rfl ⟨Nat.zero_le _, fun q' hq' => ?_⟩
          have s2 := same_upd (o := .lst []) hq'
          refine q q' [] _ (none_of s1 hq') (Fr.same (s1.trans s2)) (FT.same (s1.trans s2)) ?_ upd_same ⟨[], .nil _, rfl⟩
          have e1 : ({ boot := j.boot, gen := j.gen, start := j.start, used := j.used + (newP j []).length, recs := j.recs ++ [] } : JS) = j := by rw [List.append_nil]; rfl
          rw [e1]
          exact ⟨⟨dx, s2 _ _ obG⟩, ⟨vs0, s2 _ _ lG, dpa_same (s1.trans s2) _ hd0⟩, hg0⟩
        | cons d0 ds0 =>
          have hne : vs.isEmpty = false := by
            cases vs with
            | nil => rw [hds'] at hvl; cases hvl
            | cons _ _ => rfl
          have hne2 : (!ds.isEmpty) = true := by rw [hds']; rfl
          rw [hne2] at q
          refine ifbf (by rw [hne]; rfl) ?_
          have ea : (j.start : Int) + (j.used : Int) = ((j.start + j.used : Nat) : Int) := by omega
          have hrok : ∀ row ∈ ds.map pkL, RowOk row := fun row hr => by
            obtain ⟨d, hd, rfl⟩ := List.mem_map.mp hr
            exact ⟨pk_bytes 20 d (hgd d hd).1, (hgd d hd).2⟩
          have nDl : D ≠ l := fun z => by rw [z, hl0] at hD; cases hD
          refine ⟨_, rfl, p, T.a_Journal, dx, _, _, rfl, obG, T.K_Journal, T.na_Journal__start, fl_Journal__start, _, rfl, p, T.a_Journal, dx, _, _, rfl, obG, T.K_Journal, T.na_Journal__used, fl_Journal__used, _, _, rfl, rfl, ?_⟩
          refine ⟨_, rfl, _, rfl, _, rfl, p, T.a_Journal, dx, _, _, rfl, obG, T.K_Journal, T.na_Journal__generation, fl_Journal__generation, _, rfl, p, T.a_Journal, dx, _, _, rfl, obG, T.K_Journal, T.na_Journal__boot, fl_Journal__boot, _, rfl, p, T.a_Journal, dx, _, _, rfl, obG, T.K_Journal, T.na_Journal__records, fl_Journal__records, l, _, rfl, .inl (sql lG), D, vs, ds.map pkL, j.start + j.used, j.gen, j.boot, j.recs.length, args5b ea (by rw [h0l]), sql eD, hR.toA, hrok, hg, hb, by rw [List.length_map]; omega, hnew, fun p2 ws G2 hp2 s2 e2 hw => ?_⟩
          have hwl := hw.l
          have hwl' : ws.length = (newP j ds).length := hwl
          have s12 := s1.trans s2
          have ob2 := s12 _ _ ob
          have l2 := s12 _ _ hl0
          have n2l : p2 ≠ l := fun z => by rw [z, lG] at hp2; cases hp2
          have n2p : p2 ≠ p := fun z => by rw [z, obG] at hp2; cases hp2
          have hp2' := none_of s1 hp2
          refine ⟨_, rfl, p, T.a_Journal, dx, _, _, rfl, ob2, T.K_Journal, T.na_Journal__records, fl_Journal__records, .inl ⟨rfl, _, sql l2⟩, _, rfl, a, xs, rfl, .inl (sql (s12 _ _ hS)), fun c hc => ?_⟩
          have s3 := s12.trans (same_upd (o := .lst xs) hc)
          have ec : (upd G2 c (.lst xs)) c = some (.lst xs) := upd_same
          have e3 := same_upd (o := .lst xs) hc _ _ e2
          have ob3 := same_upd (o := .lst xs) hc _ _ ob2
          have l3 := same_upd (o := .lst xs) hc _ _ l2
          have hw3 := hw.same (same_upd (o := .lst xs) hc)
          generalize upd G2 c (.lst xs) = G3 at s3 ec e3 ob3 l3 hw3
          refine ⟨l, c, vs0, xs, rfl, rfl, l3, ec, sz (by omega), ?_⟩
          have ft4 : FT H (upd G3 l (.lst (vs0 ++ xs))) := (FT.same s3).trans (.up l3 rfl)
          have fr4 : Fr [p, l] H (upd G3 l (.lst (vs0 ++ xs))) := (Fr.same s3).up (by simp)
          have hw4 := hw3.ft (FT.up (u := .lst (vs0 ++ xs)) l3 rfl)
          have l4 : (upd G3 l (.lst (vs0 ++ xs))) l = some (.lst (vs0 ++ xs)) := upd_same
          have ob4 : (upd G3 l (.lst (vs0 ++ xs))) p = _ := (upd_ne npl).trans ob3
          have e4 : (upd G3 l (.lst (vs0 ++ xs))) p2 = _ := (upd_ne n2l).trans e3
          generalize upd G3 l (.lst (vs0 ++ xs)) = G4 at ft4 fr4 hw4 l4 ob4 e4
          refine ⟨_, rfl, p, T.a_Journal, dx, _, _, rfl, ob4, T.K_Journal, T.na_Journal__used, fl_Journal__used, _, rfl, p2, ws, rfl, .inl (sql e4), _, _, rfl, rfl, dx, _, ob4, (by show 5 < 1000; decide), ?_⟩
          rw [pf_Journal__used]
          have eu : (j.used : Int) + (ws.length : Int) = ((j.used + (newP j ds).length : Nat) : Int) := by rw [hwl']; omega
          rw [eu]
          have ft5 : FT G4 (upd G4 p (.ins T.a_Journal dx (fl_Journal (.int (j.boot : Int)) (.int (j.gen : Int)) (.int (j.start : Int)) (.int ((j.used + (newP j ds).length : Nat) : Int)) (.ref l)))) := .up ob4 rfl
          have fr5 : Fr [p, l] H (upd G4 p (.ins T.a_Journal dx (fl_Journal (.int (j.boot : Int)) (.int (j.gen : Int)) (.int (j.start : Int)) (.int ((j.used + (newP j ds).length : Nat) : Int)) (.ref l)))) := fr4.up (by simp)
          have ob5 : (upd G4 p (.ins T.a_Journal dx (fl_Journal (.int (j.boot : Int)) (.int (j.gen : Int)) (.int (j.start : Int)) (.int ((j.used + (newP j ds).length : Nat) : Int)) (.ref l)))) p = some (.ins T.a_Journal dx (fl_Journal (.int (j.boot : Int)) (.int (j.gen : Int)) (.int (j.start : Int)) (.int ((j.used + (newP j ds).length : Nat) : Int)) (.ref l))) := upd_same
          have l5 : (upd G4 p (.ins T.a_Journal dx (fl_Journal (.int (j.boot : Int)) (.int (j.gen : Int)) (.int (j.start : Int)) (.int ((j.used + (newP j ds).length : Nat) : Int)) (.ref l)))) l = _ := (upd_ne npl.symm).trans l4
          have e5 : (upd G4 p (.ins T.a_Journal dx (fl_Journal (.int (j.boot : Int)) (.int (j.gen : Int)) (.int (j.start : Int)) (.int ((j.used + (newP j ds).length : Nat) : Int)) (.ref l)))) p2 = _ := (upd_ne n2p).trans e4
          have hw5 := hw4.ft ft5
          have ft05 := ft4.trans ft5
          generalize upd G4 p (.ins T.a_Journal dx (fl_Journal (.int (j.boot : Int)) (.int (j.gen : Int)) (.int (j.start : Int)) (.int ((j.used + (newP j ds).length : Nat) : Int)) (.ref l))) = G5 at ft5 fr5 ob5 l5 e5 hw5 ft05
          refine ⟨_, rfl, (by show 1 ≤ sizeLine; decide), fun pt hpt => ⟨(by show 1 ≤ sizeLine; decide), fun pl hpl => ?_⟩⟩
          have s6 := (same_upd (o := .tup [.str "sync"]) hpt).trans (same_upd (o := .lst [.ref pt]) hpl)
          have e6 : (upd (upd G5 pt (.tup [.str "sync"])) pl (.lst [.ref pt])) pt = some (.tup [.str "sync"]) := same_upd hpl _ _ upd_same
          have e7 : (upd (upd G5 pt (.tup [.str "sync"])) pl (.lst [.ref pt])) pl = some (.lst [.ref pt]) := upd_same
          generalize upd (upd G5 pt (.tup [.str "sync"])) pl (.lst [.ref pt]) = G6 at s6 e6 e7
          refine ⟨p2, pl, ws, [.ref pt], rfl, rfl, s6 _ _ e5, e7, sz (by simp only [List.length_cons, List.length_nil]; omega), fun q' hq' => ?_⟩
          have s7 := s6.trans (same_upd (o := .lst (ws ++ [.ref pt])) hq')
          have hgd' : ∀ d ∈ j.recs ++ ds, GoodD d := fun d hd => by
            rcases List.mem_append.mp hd with h | h
            · exact hg0 d h
            · exact hgd d h
          have hq0 : H q' = none := by
            cases e : H q' with
            | none => rfl
            | some o =>
              by_cases h1 : q' = p
              · rw [h1, s6 _ _ ob5] at hq'; cases hq'
              · by_cases h2 : q' = l
                · rw [h2, s6 _ _ l5] at hq'; cases hq'
                · rw [s6 _ _ (fr5 _ _ e (by simp [h1, h2]))] at hq'; cases hq'
          exact q q' _ _ hq0 (fr5.trans (Fr.same s7)) (ft05.trans (FT.same s7)) ⟨⟨dx, s7 _ _ ob5⟩, ⟨vs0 ++ xs, s7 _ _ l5, dpa_same s7 _ (dpa_good ft05 hgd' (dpa_app hd0 hds))⟩, hgd'⟩ upd_same ⟨ws, hw5.same s7, .ref pt, rfl, pt, rfl, sqt (same_upd hq' _ _ e6)⟩
    · obtain ⟨p, a, xs, ds, k, b, rfl, hS, hds, hgd, hk, hf, hno, hlen, q⟩ := h
      refine ⟨_, (pss_cons (LcX.ps_setLcX (i := 2) (own := [("record", 5)]) (g := gName 5) (tt := tYes) (by rfl) sc_Journal_append.nd rfl rfl (sw_true rfl rfl rfl (by decide +kernel)) rfl rfl (L2N.takes_of rfl rfl rfl rfl) (pi_list (pv 1)) (blkOk_by (own := [("record", 5)]) (N := ["self", "records", "rows", "after", "steps", "record"]) (sc := defScope s_Journal_append) (by decide +kernel)) (fun _ _ _ _ _ _ => pg_name (i := 5) sc_Journal_append.nd rfl (Or.inl rfl)) (fun _ _ _ _ _ _ => pts_nil) (fun _ _ _ _ _ _ _ px => (pe_callS (ok_pack T) (hr.mono (by decide)) (by rfl) T.g_pack T.F_pack.kp T.b_pack px (pa_cons (pv 5) pa_nil))))
      (pss_cons (ps_if (pt_not (pt_truth (pv 2) (by intro _; rfl))) (pss_one (ps_ret (pe_lst pa_nil))) pss_nil)
      (pss_cons (ps_set (i := 3) sc_Journal_append.nd rfl (Or.inl rfl) (pe_op op_add (pe_fld (pv 0) rfl) (pe_fld (pv 0) rfl)))
      (pss_cons (ps_set (i := 4) sc_Journal_append.nd rfl (Or.inl rfl) (pe_call (ok__part_writes T) (hr.mono (by decide)) (by rfl) T.g__part_writes T.F__part_writes.kp T.b__part_writes .nil pass0 (pa_cons (pv 2) (pa_cons (pv 3) (pa_cons (pe_fld (pv 0) rfl) (pa_cons (pe_fld (pv 0) rfl) (pa_cons (pe_callB call_len_seq (by rfl) T.n_len PySem.boot_len (pa_cons (pe_fld (pv 0) rfl) pa_nil)) pa_nil)))))))
      (pss_cons (ps_expr (pe_bm PySem.F.plainAttrs_list PySem.F.slot_list_extend PySem.F.type_list_extend mt_extend (pe_fld (pv 0) rfl) (pa_cons (pe_callTy call_list_of (by rfl) T.n_list (by decide +kernel) (pa_cons (pv 1) pa_nil)) pa_nil)))
      (pss_cons (ps_fldaug (pv 0) (pe_callB call_len_seq (by rfl) T.n_len PySem.boot_len (pa_cons (pv 4) pa_nil)) in_add)
      (pss_one (ps_ret (pe_op op_cat (pv 4) (pe_lst (pa_cons (pe_tup (pa_cons pe_str pa_nil)) pa_nil))))))))))), ?_⟩
      refine ⟨_, rfl, a, rfl, ⟨_, sql hS⟩, fun D hD => ?_⟩
      have hxl := dxa_len hds
      have hkl : k < ds.length := (List.getElem?_eq_some_iff.mp hk).1
      refine lc_list (K := K) (a := a) (xs := xs) (fun i G => Same H G ∧ i ≤ k ∧ ∃ vs, G D = some (.lst vs) ∧ vs.length = i) ⟨same_upd hD, Nat.zero_le _, [], upd_same, rfl⟩ (fun i G _ h => h.1.seq (sql hS)) ?_ ?_
      · rintro i x G hx ⟨s1, hik, vs, eD, hv⟩
        obtain ⟨d, hdi, hdx⟩ := dxa_at hds hx
        refine ⟨rfl, ?_⟩
        dsimp only [tYes]
        refine (if_pos rfl).mpr ?_
        by_cases hki : i = k
        · have hdb : d = b := by rw [hki, hk] at hdi; exact (Option.some.inj hdi).symm
          exact ⟨_, rfl, x, d, rfl, dx_same s1 _ hdx, by rw [hdb]; exact hf, fun z => (by rw [hdb, hno] at z; cases z), fun _ => q G s1⟩
        · have hdg := hgd i d hdi (by omega)
          refine ⟨_, rfl, x, d, rfl, dx_same s1 _ hdx, okV_fits 20 d hdg.1, fun _ => ⟨by have := hdg.2; omega, fun q' G2 hq' s2 e2 => ?_⟩, fun z => (by rw [hdg.1] at z; cases z)⟩
          exact ⟨vs, s2 _ _ eD, szl (by omega), same_put (s1.trans s2) hD, by omega, vs ++ [.ref q'], upd_same, by rw [List.length_append, hv]; rfl⟩
      · rintro G ⟨_, hik, _⟩
        omega
end
end My
namespace My
open PySem PySem.Spec PyProof.Rows L2
/-! steps -/
def newSt (st used m : Nat) : Nat := if m ≤ st - 2 then 2 else st + used
inductive Stp where
  | wr (n : Nat) (s : Sc)
  | sync
theorem WrV.ft {K : PySem.W.Frag} {H H' : Hp} {v : V} {n : Nat} {s : Sc} (f : FT H H') (h : WrV K H v n s) : WrV K H' v n s := by
  obtain ⟨p, q, rfl, h1, h2⟩ := h
  exact ⟨p, q, rfl, sqt_ft f h1, sqt_ft f h2⟩
def StpV (K : PySem.W.Frag) (H : Hp) (v : V) : Stp → Prop
  | .wr n s => WrV K H v n s
  | .sync => SyV K H v
theorem StpV.ft {K : PySem.W.Frag} {H H' : Hp} {v : V} {t : Stp} (f : FT H H') (h : StpV K H v t) : StpV K H' v t := by
  cases t with
  | wr n s => exact WrV.ft f h
  | sync => exact SyV.ft f h
structure StpA (K : PySem.W.Frag) (H : Hp) (us : List V) (ts : List Stp) : Prop where
  l : us.length = ts.length
  a : ∀ (i : Nat) (t : Stp), ts[i]? = some t → ∃ v, us[i]? = some v ∧ StpV K H v t
theorem StpA.ft {K : PySem.W.Frag} {H H' : Hp} {us : List V} {ts : List Stp} (f : FT H H') (h : StpA K H us ts) : StpA K H' us ts :=
  ⟨h.l, fun i t ht => by obtain ⟨v, hv, g⟩ := h.a i t ht; exact ⟨v, hv, g.ft f⟩⟩
theorem StpA.same {K : PySem.W.Frag} {H H' : Hp} {us : List V} {ts : List Stp} (f : Same H H') (h : StpA K H us ts) : StpA K H' us ts := h.ft (FT.same f)
def wrs : Nat → List Sc → List Stp
  | _, [] => []
  | n, s :: ss => .wr n s :: wrs (n + 1) ss
theorem wrs_len : ∀ (n : Nat) (ss : List Sc), (wrs n ss).length = ss.length
  | _, [] => rfl
  | n, s :: ss => by rw [wrs, List.length_cons, List.length_cons, wrs_len (n + 1) ss]
theorem wrs_at : ∀ {n i : Nat} {ss : List Sc} {t : Stp}, (wrs n ss)[i]? = some t → ∃ s, ss[i]? = some s ∧ t = .wr (n + i) s
  | n, i, [], t, h => by simp [wrs] at h
  | n, 0, s :: ss, t, h => ⟨s, rfl, by rw [wrs] at h; exact (Option.some.inj h).symm⟩
  | n, i + 1, s :: ss, t, h => by
    rw [wrs, List.getElem?_cons_succ] at h
    obtain ⟨s', h1, h2⟩ := wrs_at h
    exact ⟨s', by rw [List.getElem?_cons_succ]; exact h1, by rw [h2, show n + 1 + i = n + (i + 1) by omega]⟩
theorem wrs_mem {n : Nat} {ss : List Sc} {t : Stp} (h : t ∈ wrs n ss) : ∃ k s, t = .wr k s ∧ s ∈ ss ∧ n ≤ k ∧ k < n + ss.length := by
  obtain ⟨i, hi, e⟩ := List.getElem_of_mem h
  have h2 : (wrs n ss)[i]? = some t := by rw [List.getElem?_eq_getElem hi, e]
  obtain ⟨s, h3, h4⟩ := wrs_at h2
  rw [wrs_len] at hi
  exact ⟨n + i, s, h4, List.mem_of_getElem? h3, by omega, by omega⟩
theorem wrs_app : ∀ (n : Nat) (ss ts : List Sc), wrs n (ss ++ ts) = wrs n ss ++ wrs (n + ss.length) ts
  | n, [], ts => rfl
  | n, s :: ss, ts => by rw [List.cons_append, wrs, wrs, wrs_app (n + 1) ss ts, List.cons_append, List.length_cons, show n + 1 + ss.length = n + (ss.length + 1) by omega]
theorem WrA.stp {K : PySem.W.Frag} {H : Hp} {us : List V} {n : Nat} {ss : List Sc} (h : WrA K H us n ss) : StpA K H us (wrs n ss) :=
  ⟨by rw [wrs_len]; exact h.l, fun i t ht => by
    obtain ⟨s, h1, rfl⟩ := wrs_at ht
    exact h.a i s h1⟩
theorem StpA.nil {K : PySem.W.Frag} {H : Hp} : StpA K H [] [] := ⟨rfl, fun i t h => by simp at h⟩
theorem StpA.cons {K : PySem.W.Frag} {H : Hp} {v : V} {us : List V} {t : Stp} {ts : List Stp} (h : StpV K H v t) (g : StpA K H us ts) : StpA K H (v :: us) (t :: ts) :=
  ⟨by rw [List.length_cons, List.length_cons, g.l], fun i u hu => by
    cases i with
    | zero => cases hu; exact ⟨v, rfl, h⟩
    | succ i => exact g.a i u (by simpa using hu)⟩
theorem StpA.app {K : PySem.W.Frag} {H : Hp} {us ws : List V} {ts rs : List Stp} (h : StpA K H us ts) (g : StpA K H ws rs) : StpA K H (us ++ ws) (ts ++ rs) := by
  refine ⟨by rw [List.length_append, List.length_append, h.l, g.l], fun i s hs => ?_⟩
  by_cases hi : i < ts.length
  · rw [List.getElem?_append_left hi] at hs
    obtain ⟨v, hv, k⟩ := h.a i s hs
    exact ⟨v, by rw [List.getElem?_append_left (by rw [h.l]; exact hi)]; exact hv, k⟩
  · rw [List.getElem?_append_right (by omega)] at hs
    obtain ⟨v, hv, k⟩ := g.a _ s hs
    exact ⟨v, by rw [List.getElem?_append_right (by rw [h.l]; omega), h.l]; exact hv, k⟩
theorem StpA.take {K : PySem.W.Frag} {H : Hp} {us : List V} {ts : List Stp} (h : StpA K H us ts) (n : Nat) : StpA K H (us.take n) (ts.take n) :=
  ⟨by rw [List.length_take, List.length_take, h.l], fun i t ht => by
    rw [List.getElem?_take] at ht
    split at ht
    · next hc =>
      obtain ⟨v, hv, g⟩ := h.a i t ht
      exact ⟨v, by rw [List.getElem?_take, if_pos hc]; exact hv, g⟩
    · cases ht⟩
def stD : Stp → PyData
  | .wr n s => .tuple [.str "write", .int (n : Int), .tuple ((scB s).map .int)]
  | .sync => .tuple [.str "sync"]
theorem WrV.dp {K : PySem.W.Frag} {H : Hp} {v : V} {n : Nat} {s : Sc} (h : WrV K H v n s) : Dp K H v (stD (.wr n s)) := by
  obtain ⟨p, q, rfl, h1, h2⟩ := h
  exact .tup h1 (.cons (.str _) (.cons (.int _) (.cons (.tup h2 (dpa_ints _)) .nil)))
theorem SyV.dp {K : PySem.W.Frag} {H : Hp} {v : V} (h : SyV K H v) : Dp K H v (stD .sync) := by
  obtain ⟨p, rfl, h1⟩ := h
  exact .tup h1 (.cons (.str _) .nil)
theorem StpV.dp {K : PySem.W.Frag} {H : Hp} {v : V} {t : Stp} (h : StpV K H v t) : Dp K H v (stD t) := by
  cases t with
  | wr n s => exact WrV.dp h
  | sync => exact SyV.dp h
theorem stD_flat (t : Stp) : Flat 2 (stD t) := by
  cases t with
  | wr n s =>
    refine flat_tup (n := 1) fun d hd => ?_
    simp only [List.mem_cons, List.not_mem_nil, or_false] at hd
    rcases hd with rfl | rfl | rfl
    · exact flat_str 1 _
    · exact flat_int 1 _
    · exact flat_tints _
  | sync => exact (flat_tup (n := 0) fun d hd => by rw [List.mem_singleton.mp hd]; exact flat_str 0 _).mono (by decide)
theorem StpA.dpa {K : PySem.W.Frag} {H : Hp} : ∀ {us : List V} {ts : List Stp}, StpA K H us ts → DpAll K H us (ts.map stD)
  | [], [], _ => .nil
  | [], _ :: _, h => by have := h.l; simp at this
  | _ :: _, [], h => by have := h.l; simp at this
  | v :: us, t :: ts, h => by
    obtain ⟨v', hv', g⟩ := h.a 0 t rfl
    cases hv'
    refine .cons g.dp (StpA.dpa ⟨by have := h.l; simpa using this, fun i u hu => ?_⟩)
    obtain ⟨w, hw, k⟩ := h.a (i + 1) u (by simpa using hu)
    exact ⟨w, by simpa using hw, k⟩
theorem stps_sh (ts : List Stp) : SeqAt.shaped (.list (ts.map stD)) = true := (flat_list (n := 2) fun d hd => by
  obtain ⟨t, _, rfl⟩ := List.mem_map.mp hd
  exact stD_flat t).sh (by decide)
def newQ (j : JS) (ds : List PyData) : List Sc := allParts (j.gen + 1) j.boot 0 (ds.map pkL)
def rwS (j : JS) (ds : List PyData) : Nat := newSt j.start j.used (newQ j ds).length
def rwT (j : JS) (ds : List PyData) : List Stp := wrs (rwS j ds) (newQ j ds) ++ [.sync, .wr ((j.gen + 1) % 2) (.head (j.gen + 1) (rwS j ds) j.boot), .sync]
theorem sum_pc (g b r : Nat) : ∀ rows : List (List Int), (rows.map fun row => (pc row.length : Int)).sum = ((allParts g b r rows).length : Int)
  | [] => rfl
  | row :: rows => by
    rw [List.map_cons, List.sum_cons, allParts, List.length_append, sum_pc g b (r + 1) rows]
    have : (partsOf g b r row).length = pc row.length := by unfold partsOf; rw [List.length_map, List.length_range]
    rw [this]; omega
theorem allParts_len (g b r g' b' r' : Nat) (rows : List (List Int)) : (allParts g b r rows).length = (allParts g' b' r' rows).length := by
  have h1 := sum_pc g b r rows
  have h2 := sum_pc g' b' r' rows
  omega
def sp_jrew (C : Addr) (K : PySem.W.Frag) : Sp := fun vs H Q _ => ∃ (p l a : Addr) (xs : List V) (j : JS) (ds : List PyData), vs = [.ref p, .ref a] ∧ JAt C K H p l j ∧ H a = some (.lst xs) ∧ DpAll K H xs ds ∧ (∀ d ∈ ds, GoodD d) ∧ ds.length ≤ 2000 ∧ j.boot < 2097152 ∧ j.gen + 1 < 2097152 ∧ 2 ≤ j.start ∧ rwS j ds < 2097152 ∧ (newQ j ds).length ≤ 50000 ∧
  ∀ q us l' H', H q = none → H l' = none → q ≠ l' → Fr [p] H H' → FT H H' → JAt C K H' p l' ⟨j.boot, j.gen + 1, rwS j ds, (newQ j ds).length, ds⟩ → H' q = some (.lst us) → StpA K H' us (rwT j ds) → Q (.ref q) H'
theorem none_fr {L : List Addr} {H H' : Hp} {x : Addr} (f : Fr L H H') (h : H' x = none) (hL : ∀ y ∈ L, H' y ≠ none) : H x = none := by
  cases e : H x with
  | none => rfl
  | some o =>
    by_cases hx : x ∈ L
    · exact absurd h (hL x hx)
    · rw [f x o e hx] at h; cases h
section
variable {P : Program} {w : World} {K : PySem.W.Frag} {mg : Str → Option Value} {base : Heap}
theorem ok_Journal_rewrite (T : TX K mg) : FnOk P w K mg base (L2N.CX P w) 25 T.a_Journal_rewrite T.d_Journal_rewrite ["self", "records"] (fun vs H Q E => sp_jrew T.a_Journal K vs H Q E ∨ sp_jbad K T.a_NotAValue vs H Q E) := by
  refine HotE.okN T.F_Journal_rewrite sc_Journal_rewrite (fun vs H Q E h => ?_) (fun cdv A outer s H vs Q E hr h => ?_)
  · rcases h with ⟨p, l, a, xs, j, ds, rfl, _⟩ | ⟨p, a, xs, ds, k, b, rfl, _⟩
    · rfl
    · rfl
  · rcases h with h | h
    · obtain ⟨p, l, a, xs, j, ds, rfl, hJ, hS, hds, hgd, hlen, hb, hg, hst2, hrs, hnew, q⟩ := h
      refine ⟨_, (pss_cons (LcX.ps_setLcX (i := 2) (own := [("record", 8)]) (g := gName 8) (tt := tYes) (by rfl) sc_Journal_rewrite.nd rfl rfl (sw_true rfl rfl rfl (by decide +kernel)) rfl rfl (L2N.takes_of rfl rfl rfl rfl) (pi_list (pv 1)) (blkOk_by (own := [("record", 8)]) (N := ["self", "records", "rows", "needed", "start", "generation", "steps", "head", "record", "packed"]) (sc := defScope s_Journal_rewrite) (by decide +kernel)) (fun _ _ _ _ _ _ => pg_name (i := 8) sc_Journal_rewrite.nd rfl (Or.inl rfl)) (fun _ _ _ _ _ _ => pts_nil) (fun _ _ _ _ _ _ _ px => (pe_callS (ok_pack T) (hr.mono (by decide)) (by rfl) T.g_pack T.F_pack.kp T.b_pack px (pa_cons (pv 8) pa_nil))))
      (pss_cons (ps_set (i := 3) sc_Journal_rewrite.nd rfl (Or.inl rfl) (pe_callB (cr_sum rfl) (by rfl) T.n_sum (by decide +kernel) (pa_cons (pe_lc (own := [("packed", 9)]) (g := gName 9) (tt := tYes) (by rfl) sc_Journal_rewrite.nd (pi_list (pv 2)) (blkOk_by (own := [("packed", 9)]) (N := ["self", "records", "rows", "needed", "start", "generation", "steps", "head", "record", "packed"]) (sc := defScope s_Journal_rewrite) (by decide +kernel)) (fun _ _ _ _ _ => pg_name (i := 9) sc_Journal_rewrite.nd rfl (Or.inl rfl)) (fun _ _ _ _ _ => pts_nil) (fun _ _ _ _ _ => (pe_call (ok__piece_count T) (hr.mono (by decide)) (by rfl) T.g__piece_count T.F__piece_count.kp T.b__piece_count .nil pass0 (pa_cons (pv 9) pa_nil)))) pa_nil)))
      (pss_cons (ps_set (i := 4) sc_Journal_rewrite.nd rfl (Or.inl rfl) (pe_op op_add (pe_fld (pv 0) rfl) (pe_fld (pv 0) rfl)))
      (C8.pss_cut (ps_if (pt_cmpR op_le (pv 3) (pe_op op_sub (pe_fld (pv 0) rfl) (pe_glob (v := .int 2) (by rfl) T.c_FIRST_START ⟨_, rfl⟩)) (nomark _)) (pss_one (ps_set (i := 4) sc_Journal_rewrite.nd rfl (Or.inl rfl) (pe_glob (v := .int 2) (by rfl) T.c_FIRST_START ⟨_, rfl⟩))) pss_nil)
      (pss_cons (ps_set (i := 5) sc_Journal_rewrite.nd rfl (Or.inl rfl) (pe_op op_add (pe_fld (pv 0) rfl) pe_int))
      (pss_cons (ps_set (i := 6) sc_Journal_rewrite.nd rfl (Or.inl rfl) (pe_call (ok__part_writes T) (hr.mono (by decide)) (by rfl) T.g__part_writes T.F__part_writes.kp T.b__part_writes .nil pass0 (pa_cons (pv 2) (pa_cons (pv 4) (pa_cons (pv 5) (pa_cons (pe_fld (pv 0) rfl) (pa_cons pe_int pa_nil)))))))
      (pss_cons (ps_set (i := 7) sc_Journal_rewrite.nd rfl (Or.inl rfl) (pe_call (ok_make_sector T) (hr.mono (by decide)) (by rfl) T.g_make_sector T.F_make_sector.kp T.b_make_sector .nil pass0 (pa_cons (pe_glob (v := .int 1) (by rfl) T.c_HEAD_KIND ⟨_, rfl⟩) (pa_cons (pe_call (ok_pack T) (hr.mono (by decide)) (by rfl) T.g_pack T.F_pack.kp T.b_pack .nil (L2N.passes_call (L2N.takes_of rfl rfl rfl rfl) (fun _ _ _ _ h => h)) (pa_cons (pe_tup (pa_cons (pv 5) (pa_cons (pv 4) (pa_cons (pe_fld (pv 0) rfl) pa_nil)))) pa_nil)) pa_nil))))
      (pss_cons (ps_fld (pv 0) (pv 5) rfl)
      (pss_cons (ps_fld (pv 0) (pv 4) rfl)
      (pss_cons (ps_fld (pv 0) (pv 3) rfl)
      (pss_cons (ps_fld (pv 0) (pe_callTy call_list_of (by rfl) T.n_list (by decide +kernel) (pa_cons (pv 1) pa_nil)) rfl)
      (pss_one (ps_ret (pe_op op_cat (pv 6) (pe_lst (pa_cons (pe_tup (pa_cons pe_str pa_nil)) (pa_cons (pe_tup (pa_cons pe_str (pa_cons (pe_op op_mod (pv 5) pe_int) (pa_cons (pv 7) pa_nil)))) (pa_cons (pe_tup (pa_cons pe_str pa_nil)) pa_nil)))))))))))))))))), ?_⟩
      obtain ⟨⟨dx, ob⟩, ⟨vs0, hl0, hd0⟩, hg0⟩ := hJ
      have ob : H p = some (.ins T.a_Journal dx (fl_Journal (.int (j.boot : Int)) (.int (j.gen : Int)) (.int (j.start : Int)) (.int (j.used : Int)) (.ref l))) := ob
      have nap : a ≠ p := fun z => by rw [z, ob] at hS; cases hS
      have hxl := dpa_len hds
      refine ⟨_, rfl, a, rfl, ⟨_, sql hS⟩, fun D hD => ?_⟩
      refine lc_list (K := K) (a := a) (xs := xs) (fun i G => Same H G ∧ ∃ vs, G D = some (.lst vs) ∧ RowsP G vs ((ds.take i).map pkL)) ⟨same_upd hD, [], upd_same, rfl, fun i r hr => by simp at hr⟩ (fun i G _ h => h.1.seq (sql hS)) ?_ ?_
      · rintro i x G hx ⟨s1, vs, eD, hR⟩
        obtain ⟨d, hdi, hdx⟩ := dpa_at hds hx
        have hdg := hgd d (List.mem_of_getElem? hdi)
        refine ⟨rfl, ?_⟩
        dsimp only [tYes]
        refine (if_pos rfl).mpr ?_
        refine ⟨_, rfl, x, d, rfl, dp_dx 20 d hdg.1 (dp_same s1 _ hdx), okV_fits 20 d hdg.1, fun _ => ⟨by have := hdg.2; omega, fun q' G2 hq' s2 e2 => ?_⟩, fun z => by rw [hdg.1] at z; cases z⟩
        have eD2 := s2 _ _ eD
        have hvl := hR.1
        rw [List.length_map, List.length_take] at hvl
        refine ⟨vs, eD2, szl (by omega), same_put (s1.trans s2) hD, vs ++ [.ref q'], upd_same, ?_⟩
        rw [take_more hdi, List.map_append]
        exact RowsP.more eD2 (hR.same s2) e2 (fun z => by rw [z, eD] at hq'; cases hq')
      · rintro G ⟨s1, vs, eD, hR⟩
        rw [hxl, List.take_length] at hR
        have hvl := hR.1
        rw [List.length_map] at hvl
        have hrok : ∀ row ∈ ds.map pkL, RowOk row := fun row hr => by
          obtain ⟨d, hd, rfl⟩ := List.mem_map.mp hr
          exact ⟨pk_bytes 20 d (hgd d hd).1, (hgd d hd).2⟩
        -- needed = sum([..])
        refine ⟨_, rfl, D, rfl, ⟨_, sql eD⟩, fun D2 hD2 => ?_⟩
        refine lc_list (K := K) (a := D) (xs := vs) (fun i G' => Same G G' ∧ G' D2 = some (.lst ((((ds.map pkL).take i).map fun row => (pc row.length : Int)).map V.int))) ⟨same_upd hD2, upd_same⟩ (fun i G' _ h => h.1.seq (sql eD)) ?_ ?_
        · rintro i x G' hx ⟨s2, e2⟩
          have hi : i < (ds.map pkL).length := by rw [← hR.1]; exact (List.getElem?_eq_some_iff.mp hx).1
          have hrow : (ds.map pkL)[i]? = some (ds.map pkL)[i] := List.getElem?_eq_getElem hi
          obtain ⟨pr, hpr, er⟩ := hR.2 i _ hrow
          obtain rfl : x = .ref pr := by rw [hpr] at hx; exact (Option.some.inj hx).symm
          refine ⟨rfl, ?_⟩
          dsimp only [tYes]
          refine (if_pos rfl).mpr ?_
          refine ⟨_, rfl, pr, _, rfl, sql (s2 _ _ er), ?_⟩
          refine ⟨_, e2, szl (by rw [List.length_map, List.length_map, List.length_take, List.length_map]; omega), same_put s2 hD2, ?_⟩
          rw [upd_same, take_more hrow, List.map_append, List.map_append]
          rfl
        · rintro G' ⟨s2, e2⟩
          rw [hR.1, List.take_length] at e2
          refine ⟨D2, _, rfl, sql e2, ?_⟩
          rw [sum_pc (j.gen + 1) j.boot 0]
          have eNew : allParts (j.gen + 1) j.boot 0 (ds.map pkL) = newQ j ds := rfl
          rw [eNew]
          have s12 := s1.trans s2
          have ob1 := s12 _ _ ob
          refine ⟨_, rfl, p, T.a_Journal, dx, _, _, rfl, ob1, T.K_Journal, T.na_Journal__start, fl_Journal__start, _, rfl, p, T.a_Journal, dx, _, _, rfl, ob1, T.K_Journal, T.na_Journal__used, fl_Journal__used, _, _, rfl, rfl, ?_⟩
          refine ⟨fun σ' G2 => σ' = [some (.ref p), some (.ref a), some (.ref D), some (.int ((newQ j ds).length : Int)), some (.int (rwS j ds : Int)), none, none, none, none, none] ∧ G' = G2, ?_, ?_⟩
          · refine ⟨_, rfl, _, rfl, p, T.a_Journal, dx, _, _, rfl, ob1, T.K_Journal, T.na_Journal__start, fl_Journal__start, _, _, rfl, rfl, _, _, rfl, rfl, _, rfl, ifd (fun hc => ⟨?_, rfl⟩) (fun hc => ⟨?_, rfl⟩)⟩
            · have : rwS j ds = 2 := if_pos (by omega)
              rw [this]; rfl
            · have : rwS j ds = j.start + j.used := if_neg (by omega)
              rw [this, Int.natCast_add]; rfl
          · rintro σ' _ ⟨rfl, rfl⟩
            have hlR : (ds.map pkL).length = ds.length := List.length_map _
            refine ⟨_, rfl, p, T.a_Journal, dx, _, _, rfl, ob1, T.K_Journal, T.na_Journal__generation, fl_Journal__generation, _, _, rfl, rfl, ?_⟩
            have eg1 : (j.gen : Int) + 1 = ((j.gen + 1 : Nat) : Int) := by omega
            dsimp only
            rw [eg1]
            refine ⟨_, rfl, _, rfl, _, rfl, _, rfl, p, T.a_Journal, dx, _, _, rfl, ob1, T.K_Journal, T.na_Journal__boot, fl_Journal__boot, D, vs, ds.map pkL, rwS j ds, j.gen + 1, j.boot, 0, rfl, sql (s2 _ _ eD), (hR.same s2).toA, hrok, hg, hb, by rw [hlR]; omega, hnew, fun p2 ws G2 hp2 s3 e3 hw => ?_⟩
            have s13 := s12.trans s3
            have ob3 := s13 _ _ ob
            refine ⟨_, rfl, _, rfl, _, rfl, p, T.a_Journal, dx, _, _, rfl, ob3, T.K_Journal, T.na_Journal__boot, fl_Journal__boot, (by show 3 ≤ sizeLine; decide), fun pt hpt => ?_⟩
            have s4 := same_upd (o := .tup [.int ((j.gen + 1 : Nat) : Int), .int (rwS j ds : Int), .int (j.boot : Int)]) hpt
            have et : (upd G2 pt (.tup [.int ((j.gen + 1 : Nat) : Int), .int (rwS j ds : Int), .int (j.boot : Int)])) pt = some (.tup [.int ((j.gen + 1 : Nat) : Int), .int (rwS j ds : Int), .int (j.boot : Int)]) := upd_same
            generalize upd G2 pt (.tup [.int ((j.gen + 1 : Nat) : Int), .int (rwS j ds : Int), .int (j.boot : Int)]) = G3 at s4 et
            have hok : ScOk (.head (j.gen + 1) (rwS j ds) j.boot) := ⟨hg, hrs, hb⟩
            have hhd := hd_ok _ _ _ hok
            have hhl := hdP_len hok
            refine ⟨.ref pt, .tuple [.int ((j.gen + 1 : Nat) : Int), .int (rwS j ds : Int), .int (j.boot : Int)], rfl, .tup (sqt et) (.cons (.int _) (.cons (.int _) (.cons (.int _) .nil))), okV_fits 20 _ hhd, fun _ => ⟨by unfold hdP at hhl; omega, fun ph G4 _ s5 eh => ?_⟩, fun z => by rw [hhd] at z; cases z⟩
            have eh : G4 ph = some (.lst ((hdP (j.gen + 1) (rwS j ds) j.boot).map V.int)) := eh
            refine ⟨ph, 1, _, rfl, sql eh, by omega, fun psc G5 _ s6 esc => ?_⟩
            have s36 := (s4.trans s5).trans s6
            have s16 := s13.trans s36
            have sG5 := s3.trans s36
            have e5 := s36 _ _ e3
            have hw5 := hw.same s36
            have ob5 := s16 _ _ ob
            have aG5 := s16 _ _ hS
            have hp2' := none_of s12 hp2
            clear s4 s5 s6 s36 et eh hw s3 e3 ob3
            -- the fields
            refine ⟨_, rfl, _, rfl, p, T.a_Journal, dx, _, rfl, ob5, T.K_Journal, T.na_Journal__generation, (by show 5 < 1000; decide), ?_⟩
            rw [pf_Journal__generation]
            refine ⟨_, rfl, _, rfl, p, T.a_Journal, dx, _, rfl, upd_same, T.K_Journal, T.na_Journal__start, (by show 5 < 1000; decide), ?_⟩
            rw [pf_Journal__start]
            refine ⟨_, rfl, _, rfl, p, T.a_Journal, dx, _, rfl, upd_same, T.K_Journal, T.na_Journal__used, (by show 5 < 1000; decide), ?_⟩
            rw [pf_Journal__used, upd_upd, upd_upd]
            have nap' : a ≠ p := nap
            refine ⟨_, rfl, a, xs, rfl, .inl (sql ((upd_ne nap).trans aG5)), fun l' hl' => ?_⟩
            have nlp : l' ≠ p := fun z => by rw [z, upd_same] at hl'; cases hl'
            have hl5 : G5 l' = none := by rw [upd_ne nlp] at hl'; exact hl'
            refine ⟨_, rfl, p, T.a_Journal, dx, _, rfl, (upd_ne nlp.symm).trans upd_same, T.K_Journal, T.na_Journal__records, (by show 5 < 1000; decide), ?_⟩
            rw [pf_Journal__records]
            have ft6 : FT G5 (upd (upd (upd G5 p (.ins T.a_Journal dx (fl_Journal (.int (j.boot : Int)) (.int ((j.gen + 1 : Nat) : Int)) (.int (rwS j ds : Int)) (.int ((newQ j ds).length : Int)) (.ref l)))) l' (.lst xs)) p (.ins T.a_Journal dx (fl_Journal (.int (j.boot : Int)) (.int ((j.gen + 1 : Nat) : Int)) (.int (rwS j ds : Int)) (.int ((newQ j ds).length : Int)) (.ref l')))) := fun x o hx hm => by
              have n1 : x ≠ p := fun z => by rw [z, ob5] at hx; cases hx; cases hm
              have n2 : x ≠ l' := fun z => by rw [z, hl5] at hx; cases hx
              rw [upd_ne n1, upd_ne n2, upd_ne n1]
              exact hx
            have fr6 : Fr [p] G5 (upd (upd (upd G5 p (.ins T.a_Journal dx (fl_Journal (.int (j.boot : Int)) (.int ((j.gen + 1 : Nat) : Int)) (.int (rwS j ds : Int)) (.int ((newQ j ds).length : Int)) (.ref l)))) l' (.lst xs)) p (.ins T.a_Journal dx (fl_Journal (.int (j.boot : Int)) (.int ((j.gen + 1 : Nat) : Int)) (.int (rwS j ds : Int)) (.int ((newQ j ds).length : Int)) (.ref l')))) := fun x o hx hm => by
              have n1 : x ≠ p := by simpa using hm
              have n2 : x ≠ l' := fun z => by rw [z, hl5] at hx; cases hx
              rw [upd_ne n1, upd_ne n2, upd_ne n1]
              exact hx
            have ob6 : (upd (upd (upd G5 p (.ins T.a_Journal dx (fl_Journal (.int (j.boot : Int)) (.int ((j.gen + 1 : Nat) : Int)) (.int (rwS j ds : Int)) (.int ((newQ j ds).length : Int)) (.ref l)))) l' (.lst xs)) p (.ins T.a_Journal dx (fl_Journal (.int (j.boot : Int)) (.int ((j.gen + 1 : Nat) : Int)) (.int (rwS j ds : Int)) (.int ((newQ j ds).length : Int)) (.ref l')))) p = some (.ins T.a_Journal dx (fl_Journal (.int (j.boot : Int)) (.int ((j.gen + 1 : Nat) : Int)) (.int (rwS j ds : Int)) (.int ((newQ j ds).length : Int)) (.ref l'))) := upd_same
            have l6 : (upd (upd (upd G5 p (.ins T.a_Journal dx (fl_Journal (.int (j.boot : Int)) (.int ((j.gen + 1 : Nat) : Int)) (.int (rwS j ds : Int)) (.int ((newQ j ds).length : Int)) (.ref l)))) l' (.lst xs)) p (.ins T.a_Journal dx (fl_Journal (.int (j.boot : Int)) (.int ((j.gen + 1 : Nat) : Int)) (.int (rwS j ds : Int)) (.int ((newQ j ds).length : Int)) (.ref l')))) l' = some (.lst xs) := (upd_ne nlp).trans upd_same
            generalize upd (upd (upd G5 p (.ins T.a_Journal dx (fl_Journal (.int (j.boot : Int)) (.int ((j.gen + 1 : Nat) : Int)) (.int (rwS j ds : Int)) (.int ((newQ j ds).length : Int)) (.ref l)))) l' (.lst xs)) p (.ins T.a_Journal dx (fl_Journal (.int (j.boot : Int)) (.int ((j.gen + 1 : Nat) : Int)) (.int (rwS j ds : Int)) (.int ((newQ j ds).length : Int)) (.ref l'))) = G6 at ft6 fr6 ob6 l6
            have n2p : p2 ≠ p := fun z => by rw [z, ob1] at hp2; cases hp2
            have e6 := fr6 _ _ e5 (by simpa using n2p)
            have esc6 := fr6 _ _ esc (by simpa using fun z => by rw [z, ob5] at esc; cases esc)
            have hw6 := hw5.ft ft6
            have hds6 := dpa_good (ds := ds) ((FT.same s16).trans ft6) hgd hds
            have ft06 : FT H G6 := (FT.same s16).trans ft6
            have fr06 : Fr [p] H G6 := (Fr.same s16).trans fr6
            clear ft6 fr6 e5 esc hw5 s16 aG5
            -- return
            refine ⟨_, rfl, (by show 1 ≤ sizeLine; decide), fun t1 ht1 => ⟨_, rfl, _, _, rfl, rfl, (by show (0 : Int) < _; decide), _, rfl, (by show 3 ≤ sizeLine; decide), fun t2 ht2 => ⟨(by show 1 ≤ sizeLine; decide), fun t3 ht3 => ⟨(by show 3 ≤ sizeLine; decide), fun pl hpl => ?_⟩⟩⟩⟩
            have em : ((j.gen + 1 : Nat) : Int) % 2 = (((j.gen + 1) % 2 : Nat) : Int) := by omega
            dsimp only at ht3 hpl ⊢
            rw [em] at ht3 hpl ⊢
            have s7 := same_upd (o := .tup [.str "sync"]) ht1
            have s8 := same_upd (o := .tup [.str "write", .int (((j.gen + 1) % 2 : Nat) : Int), .ref psc]) ht2
            have s9 := same_upd (o := .tup [.str "sync"]) ht3
            have s10 := same_upd (o := .lst [.ref t1, .ref t2, .ref t3]) hpl
            have k1 := s10 _ _ (s9 _ _ (s8 _ _ (upd_same (H := G6) (a := t1) (o := .tup [.str "sync"]))))
            have k2 := s10 _ _ (s9 _ _ (upd_same (H := upd G6 t1 (.tup [.str "sync"])) (a := t2) (o := .tup [.str "write", .int (((j.gen + 1) % 2 : Nat) : Int), .ref psc])))
            have k3 := s10 _ _ (upd_same (H := upd (upd G6 t1 (.tup [.str "sync"])) t2 (.tup [.str "write", .int (((j.gen + 1) % 2 : Nat) : Int), .ref psc])) (a := t3) (o := .tup [.str "sync"]))
            have s610 := ((s7.trans s8).trans s9).trans s10
            have k4 : (upd (upd (upd (upd G6 t1 (.tup [.str "sync"])) t2 (.tup [.str "write", .int (((j.gen + 1) % 2 : Nat) : Int), .ref psc])) t3 (.tup [.str "sync"])) pl (.lst [.ref t1, .ref t2, .ref t3])) pl = some (.lst [.ref t1, .ref t2, .ref t3]) := upd_same
            clear s7 s8 s9 s10
            generalize upd (upd (upd (upd G6 t1 (.tup [.str "sync"])) t2 (.tup [.str "write", .int (((j.gen + 1) % 2 : Nat) : Int), .ref psc])) t3 (.tup [.str "sync"])) pl (.lst [.ref t1, .ref t2, .ref t3]) = G7 at k1 k2 k3 k4 s610
            have hwl : ws.length = (newQ j ds).length := hw6.l
            refine ⟨p2, pl, ws, _, rfl, rfl, s610 _ _ e6, k4, sz (by simp only [List.length_cons, List.length_nil]; omega), fun q' hq' => ?_⟩
            have s11 := same_upd (o := .lst (ws ++ [.ref t1, .ref t2, .ref t3])) hq'
            have s611 := s610.trans s11
            have ob7 := s610 _ _ ob6
            have l7 := s610 _ _ l6
            have hq6 := none_of s610 hq'
            have hq0 : H q' = none := none_fr fr06 hq6 (fun y hy => by rw [List.mem_singleton.mp hy, ob6]; simp)
            have hl0' : H l' = none := none_of (s12.trans sG5) hl5
            refine q q' _ l' _ hq0 hl0' (fun z => by rw [z, l7] at hq'; cases hq') (fun x o hx hn => s611 _ _ (fr06 _ _ hx hn)) (ft06.trans (FT.same s611)) ⟨⟨dx, s611 _ _ ob6⟩, ⟨xs, s611 _ _ l6, dpa_same s611 _ hds6⟩, hgd⟩ upd_same ?_
            exact ((hw6.same s611).stp).app (.cons ⟨t1, rfl, sqt (s11 _ _ k1)⟩ (.cons ⟨t2, psc, rfl, sqt (s11 _ _ k2), sqt (s611 _ _ esc6)⟩ (.cons ⟨t3, rfl, sqt (s11 _ _ k3)⟩ .nil)))
    · obtain ⟨p, a, xs, ds, k, b, rfl, hS, hds, hgd, hk, hf, hno, hlen, q⟩ := h
      refine ⟨_, (pss_cons (LcX.ps_setLcX (i := 2) (own := [("record", 8)]) (g := gName 8) (tt := tYes) (by rfl) sc_Journal_rewrite.nd rfl rfl (sw_true rfl rfl rfl (by decide +kernel)) rfl rfl (L2N.takes_of rfl rfl rfl rfl) (pi_list (pv 1)) (blkOk_by (own := [("record", 8)]) (N := ["self", "records", "rows", "needed", "start", "generation", "steps", "head", "record", "packed"]) (sc := defScope s_Journal_rewrite) (by decide +kernel)) (fun _ _ _ _ _ _ => pg_name (i := 8) sc_Journal_rewrite.nd rfl (Or.inl rfl)) (fun _ _ _ _ _ _ => pts_nil) (fun _ _ _ _ _ _ _ px => (pe_callS (ok_pack T) (hr.mono (by decide)) (by rfl) T.g_pack T.F_pack.kp T.b_pack px (pa_cons (pv 8) pa_nil))))
      (pss_cons (ps_set (i := 3) sc_Journal_rewrite.nd rfl (Or.inl rfl) (pe_callB (cr_sum rfl) (by rfl) T.n_sum (by decide +kernel) (pa_cons (pe_lc (own := [("packed", 9)]) (g := gName 9) (tt := tYes) (by rfl) sc_Journal_rewrite.nd (pi_list (pv 2)) (blkOk_by (own := [("packed", 9)]) (N := ["self", "records", "rows", "needed", "start", "generation", "steps", "head", "record", "packed"]) (sc := defScope s_Journal_rewrite) (by decide +kernel)) (fun _ _ _ _ _ => pg_name (i := 9) sc_Journal_rewrite.nd rfl (Or.inl rfl)) (fun _ _ _ _ _ => pts_nil) (fun _ _ _ _ _ => (pe_call (ok__piece_count T) (hr.mono (by decide)) (by rfl) T.g__piece_count T.F__piece_count.kp T.b__piece_count .nil pass0 (pa_cons (pv 9) pa_nil)))) pa_nil)))
      (pss_cons (ps_set (i := 4) sc_Journal_rewrite.nd rfl (Or.inl rfl) (pe_op op_add (pe_fld (pv 0) rfl) (pe_fld (pv 0) rfl)))
      (C8.pss_cut (ps_if (pt_cmpR op_le (pv 3) (pe_op op_sub (pe_fld (pv 0) rfl) (pe_glob (v := .int 2) (by rfl) T.c_FIRST_START ⟨_, rfl⟩)) (nomark _)) (pss_one (ps_set (i := 4) sc_Journal_rewrite.nd rfl (Or.inl rfl) (pe_glob (v := .int 2) (by rfl) T.c_FIRST_START ⟨_, rfl⟩))) pss_nil)
      (pss_cons (ps_set (i := 5) sc_Journal_rewrite.nd rfl (Or.inl rfl) (pe_op op_add (pe_fld (pv 0) rfl) pe_int))
      (pss_cons (ps_set (i := 6) sc_Journal_rewrite.nd rfl (Or.inl rfl) (pe_call (ok__part_writes T) (hr.mono (by decide)) (by rfl) T.g__part_writes T.F__part_writes.kp T.b__part_writes .nil pass0 (pa_cons (pv 2) (pa_cons (pv 4) (pa_cons (pv 5) (pa_cons (pe_fld (pv 0) rfl) (pa_cons pe_int pa_nil)))))))
      (pss_cons (ps_set (i := 7) sc_Journal_rewrite.nd rfl (Or.inl rfl) (pe_call (ok_make_sector T) (hr.mono (by decide)) (by rfl) T.g_make_sector T.F_make_sector.kp T.b_make_sector .nil pass0 (pa_cons (pe_glob (v := .int 1) (by rfl) T.c_HEAD_KIND ⟨_, rfl⟩) (pa_cons (pe_call (ok_pack T) (hr.mono (by decide)) (by rfl) T.g_pack T.F_pack.kp T.b_pack .nil (L2N.passes_call (L2N.takes_of rfl rfl rfl rfl) (fun _ _ _ _ h => h)) (pa_cons (pe_tup (pa_cons (pv 5) (pa_cons (pv 4) (pa_cons (pe_fld (pv 0) rfl) pa_nil)))) pa_nil)) pa_nil))))
      (pss_cons (ps_fld (pv 0) (pv 5) rfl)
      (pss_cons (ps_fld (pv 0) (pv 4) rfl)
      (pss_cons (ps_fld (pv 0) (pv 3) rfl)
      (pss_cons (ps_fld (pv 0) (pe_callTy call_list_of (by rfl) T.n_list (by decide +kernel) (pa_cons (pv 1) pa_nil)) rfl)
      (pss_one (ps_ret (pe_op op_cat (pv 6) (pe_lst (pa_cons (pe_tup (pa_cons pe_str pa_nil)) (pa_cons (pe_tup (pa_cons pe_str (pa_cons (pe_op op_mod (pv 5) pe_int) (pa_cons (pv 7) pa_nil)))) (pa_cons (pe_tup (pa_cons pe_str pa_nil)) pa_nil)))))))))))))))))), ?_⟩
      refine ⟨_, rfl, a, rfl, ⟨_, sql hS⟩, fun D hD => ?_⟩
      have hxl := dxa_len hds
      have hkl : k < ds.length := (List.getElem?_eq_some_iff.mp hk).1
      refine lc_list (K := K) (a := a) (xs := xs) (fun i G => Same H G ∧ i ≤ k ∧ ∃ vs, G D = some (.lst vs) ∧ vs.length = i) ⟨same_upd hD, Nat.zero_le _, [], upd_same, rfl⟩ (fun i G _ h => h.1.seq (sql hS)) ?_ ?_
      · rintro i x G hx ⟨s1, hik, vs, eD, hv⟩
        obtain ⟨d, hdi, hdx⟩ := dxa_at hds hx
        refine ⟨rfl, ?_⟩
        dsimp only [tYes]
        refine (if_pos rfl).mpr ?_
        by_cases hki : i = k
        · have hdb : d = b := by rw [hki, hk] at hdi; exact (Option.some.inj hdi).symm
          exact ⟨_, rfl, x, d, rfl, dx_same s1 _ hdx, by rw [hdb]; exact hf, fun z => (by rw [hdb, hno] at z; cases z), fun _ => q G s1⟩
        · have hdg := hgd i d hdi (by omega)
          refine ⟨_, rfl, x, d, rfl, dx_same s1 _ hdx, okV_fits 20 d hdg.1, fun _ => ⟨by have := hdg.2; omega, fun q' G2 hq' s2 e2 => ?_⟩, fun z => (by rw [hdg.1] at z; cases z)⟩
          exact ⟨vs, s2 _ _ eD, szl (by omega), same_put (s1.trans s2) hD, by omega, vs ++ [.ref q'], upd_same, by rw [List.length_append, hv]; rfl⟩
      · rintro G ⟨_, hik, _⟩
        omega
end
end My
namespace My
open PySem PySem.Spec PyProof.Rows L2
/-! the law's records and sectors -/
structure RecD (d : PyData) : Prop where
  o : okV 20 d = true
  s : smD d = true
  l : (pkL d).length ≤ 200
theorem RecD.good {d : PyData} (h : RecD d) : GoodD d := ⟨h.o, by have := h.l; omega⟩
def abS : Str := "ab c/-9Z"
theorem ab_at : ∀ j : Nat, j < 8 → (abS.cps.toList[j]?).any plainC = true := by decide +kernel
theorem ab_len : abS.length = 8 := by decide +kernel
theorem bits_sm {n : Int} (h : n.natAbs < 2000000) : bitsOk n = true := by
  unfold bitsOk Builtin.Int.intBits
  refine decide_eq_true ?_
  by_cases h0 : n = 0
  · rw [h0]; decide
  · have hb : (n == 0) = false := by simpa using h0
    rw [hb]
    simp only [Bool.false_eq_true, if_false]
    have := (Nat.log2_lt (show n.natAbs ≠ 0 by omega)).mpr (show n.natAbs < 2 ^ 30 by omega)
    omega
theorem pk_int_len {n : Int} (h : n.natAbs < 2000000) : (pkL (.int n)).length ≤ 4 := by
  by_cases hn : n < 0
  · rw [show pkL (.int n) = 4 :: enc (-1 - n).toNat by simp [pkL, hn]]
    have := enc3 (show (-1 - n).toNat < 2097152 by omega)
    rw [List.length_cons]
    omega
  · rw [show pkL (.int n) = 3 :: enc n.toNat by simp [pkL, hn]]
    have := enc3 (show n.toNat < 2097152 by omega)
    rw [List.length_cons]
    omega
theorem pk_str_len {x : Str} (hl : x.length ≤ 190) : (pkL (.str x)).length ≤ x.length + 4 := by
  have e : pkL (.str x) = 5 :: (enc x.length ++ x.cps.toList.map fun (c : Nat) => (c : Int) - 32) := by simp [pkL]
  have hle := enc3 (show x.length < 2097152 by omega)
  rw [e]
  simp only [List.length_cons, List.length_append, List.length_map, ← zlen]
  omega
theorem rec_non : RecD .none := ⟨by simp [okV], by simp [smD], by simp [pkL]⟩
theorem rec_int {n : Int} (h : n.natAbs < 2000000) : RecD (.int n) := ⟨by simpa [okV] using bits_sm h, by simp only [smD, Bool.and_eq_true, decide_eq_true_eq]; omega, by have := pk_int_len h; omega⟩
theorem rec_str {x : Str} (hl : x.length ≤ 190) (hp : plainS x = true) : RecD (.str x) := ⟨by rw [okV_str, hp, Bool.and_true]; exact decide_eq_true (by omega), by simp [smD], by have := pk_str_len hl; omega⟩
theorem rec_tup {x : Str} {m n : Int} {b : Bool} (hl : x.length ≤ 6) (hp : plainS x = true) (hm : m.natAbs < 2000000) (hn : n.natAbs < 2000000) : RecD (.tuple [.str x, .int m, .tuple [.int n, .str x], .bool b]) := by
  have h1 := rec_str (x := x) (by omega) hp
  have h2 := rec_int hm
  have h3 := rec_int hn
  have e1 : okV 19 (.str x) = true := by have := h1.o; rw [okV_str] at this ⊢; exact this
  have e2 : okV 19 (.int m) = true := by simpa [okV] using bits_sm hm
  have e3 : okV 18 (.int n) = true := by simpa [okV] using bits_sm hn
  have e4 : okV 18 (.str x) = true := by rw [okV_str] at e1 ⊢; exact e1
  have e5 : okV 19 (.bool b) = true := okV_bl 19 b
  have e6 : okV 19 (.tuple [.int n, .str x]) = true := by
    rw [okV_tup]
    simp only [okA, e3, e4, Bool.and_true]
    rfl
  refine ⟨?_, ?_, ?_⟩
  · rw [okV_tup]
    simp only [okA, e1, e2, e5, e6, Bool.and_true]
    rfl
  · simp only [smD, smA, Bool.and_true]
    have := h2.s
    have := h3.s
    simp only [smD] at *
    simp [*]
  · have l1 := pk_str_len (x := x) (by omega)
    have l2 := pk_int_len hm
    have l3 := pk_int_len hn
    have q2 : enc 2 = [2] := enc_small (by decide)
    have q4 : enc 4 = [4] := enc_small (by decide)
    have lb : (pkL (.bool b)).length ≤ 1 := by cases b <;> simp [pkL]
    rw [show pkL (.tuple [.str x, .int m, .tuple [.int n, .str x], .bool b]) = 6 :: 4 :: (pkL (.str x) ++ (pkL (.int m) ++ ((6 :: 2 :: (pkL (.int n) ++ pkL (.str x))) ++ pkL (.bool b)))) by simp only [pkL, pkA, List.length_cons, List.length_nil, q2, q4]; simp [pkL, pkA, q2, q4]]
    simp only [List.length_cons, List.length_append]
    omega
def sp_lrec (K : PySem.W.Frag) : Sp := fun vs H Q _ => ∃ (a : Addr) (ds : List Int), vs = [.ref a] ∧ SqL K H a (ds.map V.int) ∧ Drawn ds ∧ 8 ≤ ds.length ∧ ∀ v d H', Same H H' → Dp K H' v d → RecD d → Q v H'
def sp_lsec (K : PySem.W.Frag) : Sp := fun vs H Q _ => ∃ (a : Addr) (kind : Int) (pl : List Int), vs = [.int kind, .ref a] ∧ H a = some (.lst (pl.map V.int)) ∧ pl.length ≤ 58 ∧ ∀ p H', Same H H' → H' p = some (.tup ((sec (secBody kind pl)).map V.int)) → Q (.ref p) H'
section
variable {P : Program} {w : World} {K : PySem.W.Frag} {mg : Str → Option Value} {base : Heap}
theorem ok__law_record (T : TX K mg) : FnOk P w K mg base CX0 1 T.a__law_record T.d__law_record ["draws"] (sp_lrec K) := by
  refine T.F__law_record.ok sc__law_record (fun vs H Q E h => ?_) (fun cdv A outer s H vs Q E hr h => ?_)
  · obtain ⟨a, ds, rfl, _⟩ := h
    rfl
  · obtain ⟨a, ds, rfl, hS, hd, hl, q⟩ := h
    refine ⟨_, (pss_cons (ps_set (i := 1) sc__law_record.nd rfl (Or.inl rfl) (pe_op op_mod (pe_callTy call_int1 (by rfl) T.n_int (by decide +kernel) (pa_cons (pe_ix ix_list (pv 0) pe_int (fun _ _ => rfl)) pa_nil)) pe_int))
      (pss_cons (ps_if (pt_cmpR op_eq (pv 1) pe_int (nomark _)) (pss_one (ps_ret pe_non)) pss_nil)
      (pss_cons (ps_if (pt_cmpR op_eq (pv 1) pe_int (nomark _)) (pss_one (ps_ret (pe_op op_add (pe_op op_mul (pe_ix ix_list (pv 0) pe_int (fun _ _ => rfl)) pe_int) (pe_ix ix_list (pv 0) pe_int (fun _ _ => rfl))))) pss_nil)
      (pss_cons (ps_set (i := 2) sc__law_record.nd rfl (Or.inl rfl) (pe_join pe_str (pe_lc (own := [("draw", 3)]) (g := gName 3) (tt := tYes) (by rfl) sc__law_record.nd (pi_list (pe_slice sl_list (pv 0) (po_some pe_int) (po_some (pe_op op_add pe_int (pe_op op_mod (pe_callTy call_int1 (by rfl) T.n_int (by decide +kernel) (pa_cons (pe_ix ix_list (pv 0) pe_int (fun _ _ => rfl)) pa_nil)) pe_int))))) (blkOk_by (own := [("draw", 3)]) (N := ["draws", "kind", "word", "draw"]) (sc := defScope s__law_record) (by decide +kernel)) (fun _ _ _ _ _ => pg_name (i := 3) sc__law_record.nd rfl (Or.inl rfl)) (fun _ _ _ _ _ => pts_nil) (fun _ _ _ _ _ => (pe_ix ix_str pe_str (pe_op op_mod (pe_callTy call_int1 (by rfl) T.n_int (by decide +kernel) (pa_cons (pv 3) pa_nil)) pe_int) (fun _ _ => rfl))))))
      (C8.pss_cut (ps_if (pt_cmpR op_eq (pv 1) pe_int (nomark _)) (pss_one (ps_set (i := 2) sc__law_record.nd rfl (Or.inl rfl) (pe_op op_repS (pv 2) (pe_op op_add pe_int (pe_op op_mod (pe_callTy call_int1 (by rfl) T.n_int (by decide +kernel) (pa_cons (pe_ix ix_list (pv 0) pe_int (fun _ _ => rfl)) pa_nil)) pe_int))))) pss_nil)
      (pss_cons (ps_if (pt_cmpR op_lt (pv 1) pe_int (nomark _)) (pss_one (ps_ret (pv 2))) pss_nil)
      (pss_one (ps_ret (pe_tup (pa_cons (pv 2) (pa_cons (pe_ix ix_list (pv 0) pe_int (fun _ _ => rfl)) (pa_cons (pe_tup (pa_cons (pe_op op_sub (pe_ix ix_list (pv 0) pe_int (fun _ _ => rfl)) pe_int) (pa_cons (pv 2) pa_nil))) (pa_cons (pe_cmpR op_eq (pe_op op_mod (pe_ix ix_list (pv 0) pe_int (fun _ _ => rfl)) pe_int) pe_int (nomark _)) pa_nil))))))))))))), ?_⟩
    have gt : ∀ {k : Nat} (h : k < ds.length), atI (ds.map V.int) (k : Int) = some (.int ds[k]) := fun h => at_map (List.getElem?_eq_getElem h)
    have hb : ∀ {k : Nat} (h : k < ds.length), 0 ≤ ds[k] ∧ ds[k] < 997 := fun h => hd _ (List.getElem_mem h)
    have hb0 := hb (show 0 < ds.length by omega)
    have hb1 := hb (show 1 < ds.length by omega)
    have hb2 := hb (show 2 < ds.length by omega)
    refine ⟨_, rfl, a, _, 0, .int ds[0], rfl, rfl, hS, gt (k := 0) (by omega), .inl ⟨_, rfl, _, _, rfl, rfl, (by show (0 : Int) < _; decide), ?_⟩⟩
    refine ⟨_, rfl, rfl, _, rfl, ifd (fun hx => q .non .none H (Same.refl _) .non rec_non) (fun hx => ?_)⟩
    refine ⟨_, rfl, rfl, _, rfl, ifd (fun hx1 => ?_) (fun hx1 => ?_)⟩
    · exact ⟨_, rfl, a, _, 1, .int ds[1], rfl, rfl, hS, gt (k := 1) (by omega), _, _, rfl, rfl, .inl ⟨by omega, by omega⟩, _, rfl, a, _, 2, .int ds[2], rfl, rfl, hS, gt (k := 2) (by omega), _, _, rfl, rfl, q _ (.int (ds[1] * 997 + ds[2])) H (Same.refl _) (.int _) (rec_int (by omega))⟩
    obtain ⟨j, hj⟩ : ∃ j : Nat, (1 : Int) + ds[2] % 7 = (j : Int) := ⟨((1 : Int) + ds[2] % 7).toNat, by omega⟩
    refine ⟨⟨_, rfl⟩, ?_⟩
    have l1 : ((ds.drop 1).take (j - 1)).length ≤ 6 := by rw [List.length_take, List.length_drop]; omega
    refine ⟨_, rfl, 1, rfl, _, rfl, a, _, 2, .int ds[2], rfl, rfl, hS, gt (k := 2) (by omega), .inl ⟨_, rfl, _, _, rfl, rfl, (by show (0 : Int) < _; decide), _, _, rfl, rfl, _, rfl, a, _, rfl, hS, fun p hp => ?_⟩⟩
    dsimp only
    rw [cut_ints ds (i := 1) (j := j) (a := 1) rfl hj]
    have s1 := same_upd (o := .lst (((ds.drop 1).take (j - 1)).map V.int)) hp
    have ep : (upd H p (.lst (((ds.drop 1).take (j - 1)).map V.int))) p = some (.lst (((ds.drop 1).take (j - 1)).map V.int)) := upd_same
    generalize (ds.drop 1).take (j - 1) = part at l1 s1 ep
    generalize upd H p (.lst (part.map V.int)) = G1 at s1 ep
    refine ⟨p, rfl, ⟨_, sql ep⟩, fun D hD => ?_⟩
    refine lc_it (walk_list (K := K) (a := p) (xs := part.map V.int)) (fun i G => Same G1 G ∧ ∃ cs : List Nat, G D = some (.lst ((cs.map fun c => (⟨#[c]⟩ : Str)).map V.str)) ∧ (∀ c ∈ cs, plainC c = true) ∧ cs.length = i) ⟨same_upd hD, [], upd_same, (fun _ z => by cases z), rfl⟩ (fun i G _ h => h.1.seq (sql ep)) ?_ ?_
    · rintro i x G G' hi ⟨s2, cs, e2, hp2, hl2⟩ ⟨rfl, hx⟩
      rw [List.length_map] at hi
      obtain ⟨z, hz, rfl⟩ := map_at hx
      refine ⟨rfl, ?_⟩
      dsimp only [tYes]
      refine (if_pos rfl).mpr ?_
      obtain ⟨jj, hjj⟩ := Int.eq_ofNat_of_zero_le (Int.emod_nonneg z (show (8 : Int) ≠ 0 by decide))
      have hj2 : jj < 8 := by have := Int.emod_lt_of_pos z (show (0 : Int) < 8 by decide); omega
      have hat := ab_at jj hj2
      obtain ⟨c, hc, hpc⟩ : ∃ c, abS.cps.toList[jj]? = some c ∧ plainC c = true := by
        cases e : abS.cps.toList[jj]? with
        | none => rw [e] at hat; cases hat
        | some c => exact ⟨c, rfl, by rw [e] at hat; exact hat⟩
      refine ⟨_, rfl, .inl ⟨_, rfl, _, _, rfl, rfl, (by show (0 : Int) < _; decide), _, _, c, rfl, rfl, (show abS.length ≤ sizeLine from by rw [ab_len]; exact sz (by decide)), (by rw [hjj]; exact atI_nat hc), ?_⟩⟩
      refine ⟨_, e2, szl (by rw [List.length_map, List.length_map]; omega), same_put s2 hD, cs ++ [c], ?_, ?_, by rw [List.length_append, hl2]; rfl⟩
      · rw [upd_same, List.map_append, List.map_append]; rfl
      · intro y hy
        rcases List.mem_append.mp hy with w | w
        · exact hp2 y w
        · rw [List.mem_singleton] at w
          rw [w]
          exact hpc
    · rintro G ⟨s2, cs, e2, hp2, hl2⟩
      rw [List.length_map] at hl2
      refine ⟨"", D, cs.map fun c => (⟨#[c]⟩ : Str), rfl, rfl, .inl (sql e2), ?_, ?_⟩
      · rw [signs_len, List.length_map]
        show cs.length + cs.length * 0 ≤ _
        omega
      rw [join_signs]
      have hw : plainS ⟨cs.toArray⟩ = true := by
        unfold plainS
        rw [List.all_eq_true]
        exact fun x hx => hp2 x (by simpa using hx)
      have hwl : Str.length ⟨cs.toArray⟩ ≤ 6 := by
        show cs.toArray.size ≤ 6
        rw [List.size_toArray]
        omega
      have s12 := s1.trans s2
      generalize (⟨cs.toArray⟩ : Str) = wd at hw hwl
      refine ⟨fun σ' G' => ∃ wd : Str, plainS wd = true ∧ wd.length ≤ 190 ∧ (ds[0] % 8 ≠ 2 → wd.length ≤ 6) ∧ σ' = [some (.ref a), some (.int (ds[0] % 8)), some (.str wd), none] ∧ G = G', ?_, ?_⟩
      · refine ⟨_, rfl, rfl, _, rfl, ifd (fun hx => ?_) (fun hx => ⟨wd, hw, by omega, fun _ => hwl, rfl, rfl⟩)⟩
        have hb3 := hb (show 3 < ds.length by omega)
        refine ⟨_, rfl, _, rfl, a, _, 3, .int ds[3], rfl, rfl, s12.seq hS, gt (k := 3) (by omega), .inl ⟨_, rfl, _, _, rfl, rfl, (by show (0 : Int) < _; decide), _, _, rfl, rfl, ?_⟩⟩
        have hn1 : 1 ≤ 1 + ds[3] % 30 ∧ 1 + ds[3] % 30 ≤ 30 := by omega
        have hml : (1 + ds[3] % 30).toNat * wd.length ≤ 30 * 6 := Nat.mul_le_mul (by omega) hwl
        refine ⟨wd, 1 + ds[3] % 30, rfl, rfl, hn1.1, by omega, by omega, PySem.Txt.mul wd (1 + ds[3] % 30), ?_, by rw [mul_len hn1.1]; omega, fun h => absurd (V.int.inj hx) h, rfl, rfl⟩
        unfold plainS at hw ⊢
        rw [mul_list hn1.1]
        rw [List.all_eq_true] at hw ⊢
        intro c hc
        obtain ⟨l, hl, hcl⟩ := List.mem_flatten.mp hc
        rw [List.eq_of_mem_replicate hl] at hcl
        exact hw c hcl
      · rintro σ _ ⟨wd, hw, hwl, hw6, rfl, rfl⟩
        have hb4 := hb (show 4 < ds.length by omega)
        have hb5 := hb (show 5 < ds.length by omega)
        refine ⟨_, rfl, _, _, rfl, rfl, _, rfl, ifd (fun hlt => ⟨_, rfl, q _ (.str wd) _ s12 (.str wd) (rec_str hwl hw)⟩) (fun hge => ?_)⟩
        refine ⟨_, rfl, _, rfl, a, _, 4, .int ds[4], rfl, rfl, s12.seq hS, gt (k := 4) (by omega), _, rfl, a, _, 5, .int ds[5], rfl, rfl, s12.seq hS, gt (k := 5) (by omega), _, _, rfl, rfl, _, rfl, (by show 2 ≤ sizeLine; decide), fun pi hpi => ?_⟩
        have s3 := s12.trans (same_upd (o := .tup [.int (ds[5] - 400), .str wd]) hpi)
        refine ⟨_, rfl, a, _, 6, .int ds[6], rfl, rfl, s3.seq hS, gt (k := 6) (by omega), _, _, rfl, rfl, (by show (0 : Int) < _; decide), rfl, (by show 4 ≤ sizeLine; decide), fun pt hpt => ?_⟩
        have s4 := same_upd (o := .tup [.str wd, .int ds[4], .ref pi, .bl (decide (V.int (ds[6] % 2) = V.int 0))]) hpt
        exact q _ (.tuple [.str wd, .int ds[4], .tuple [.int (ds[5] - 400), .str wd], .bool (decide (V.int (ds[6] % 2) = V.int 0))]) _ (s3.trans s4) (.tup (sqt upd_same) (.cons (.str wd) (.cons (.int _) (.cons (.tup (sqt (s4 _ _ upd_same)) (.cons (.int _) (.cons (.str wd) .nil))) (.cons (.bl _) .nil))))) (rec_tup (hw6 (by omega)) hw (by omega) (by omega))
end
/-- a thing that is no value -/
def BadD (d : PyData) : Prop := fits d = true ∧ okV 20 d = false
def chainE : Nat → PyData
  | 0 => .tuple []
  | n + 1 => .tuple [chainE n]
theorem chainE_no : ∀ (m n : Nat), n ≤ m → okV n (chainE m) = false
  | m, 0, _ => by cases m <;> exact okV_tup0 _
  | m + 1, n + 1, h => by
    show okV (n + 1) (.tuple [chainE m]) = false
    rw [okV_tup]
    simp [okA, chainE_no m n (by omega)]
theorem chainE_fits : ∀ m : Nat, fits (chainE m) = true
  | 0 => by simp [chainE, fits, fitsA]
  | m + 1 => by simp [chainE, fits, fitsA, chainE_fits m]
def sp_strange (K : PySem.W.Frag) : Sp := fun vs H Q _ => ∃ (i : Int), vs = [.int i] ∧ ∀ v d H', Same H H' → Dx K H' v d → BadD d → Q v H'
section
variable {P : Program} {w : World} {K : PySem.W.Frag} {mg : Str → Option Value} {base : Heap}
theorem okH_Journal_sectors_used (T : TX K mg) : L2H.FnH P w K mg base CX0 1 T.a_Journal_sectors_used T.d_Journal_sectors_used ["self"] (sp_jused T.a_Journal K) := by
  refine HotE.okH T.F_Journal_sectors_used sc_Journal_sectors_used (fun vs H Q E h => ?_) (fun cdv A outer s H vs Q E pp hc hr h => ?_)
  · obtain ⟨p, l, j, rfl, _⟩ := h
    rfl
  · obtain ⟨p, l, j, rfl, hJ, q⟩ := h
    refine ⟨_, (pss_one (ps_ret (pe_fld (pv 0) rfl))), ?_⟩
    obtain ⟨dx, ob⟩ := hJ.ob
    exact ⟨_, rfl, p, T.a_Journal, dx, _, _, rfl, ob, T.K_Journal, T.na_Journal__used, fl_Journal__used, q⟩
theorem okH_Journal_records (T : TX K mg) : L2H.FnH P w K mg base CX0 1 T.a_Journal_records T.d_Journal_records ["self"] (sp_jrecs T.a_Journal K) := by
  refine HotE.okH T.F_Journal_records sc_Journal_records (fun vs H Q E h => ?_) (fun cdv A outer s H vs Q E pp hc hr h => ?_)
  · obtain ⟨p, l, j, rfl, _⟩ := h
    rfl
  · obtain ⟨p, l, j, rfl, hJ, q⟩ := h
    refine ⟨_, (pss_one (ps_ret (pe_callTy call_list_of (by rfl) T.n_list (by decide +kernel) (pa_cons (pe_fld (pv 0) rfl) pa_nil)))), ?_⟩
    obtain ⟨dx, ob⟩ := hJ.ob
    obtain ⟨vs, hl, hd⟩ := hJ.rl
    exact ⟨_, rfl, p, T.a_Journal, dx, _, _, rfl, ob, T.K_Journal, T.na_Journal__records, fl_Journal__records, l, vs, rfl, .inl (sql hl), fun r hr => q r vs _ hr (same_upd hr) upd_same (dpa_same (same_upd hr) _ hd)⟩
theorem ok__law_strange (T : TX K mg) : FnOk P w K mg base CX0 1 T.a__law_strange T.d__law_strange ["draw"] (sp_strange K) := by
  refine T.F__law_strange.ok sc__law_strange (fun vs H Q E h => ?_) (fun cdv A outer s H vs Q E hr h => ?_)
  · obtain ⟨i, rfl, _⟩ := h
    rfl
  · obtain ⟨i, rfl, q⟩ := h
    refine ⟨_, (pss_cons (ps_if (pt_cmpR op_eq (pe_op op_mod (pv 0) pe_int) pe_int (nomark _)) (pss_one (ps_ret (pe_lst (pa_cons pe_int pa_nil)))) pss_nil)
      (pss_cons (ps_if (pt_cmpR op_eq (pe_op op_mod (pv 0) pe_int) pe_int (nomark _)) (pss_one (ps_ret pe_dnewK)) pss_nil)
      (pss_cons (ps_if (pt_cmpR op_eq (pe_op op_mod (pv 0) pe_int) pe_int (nomark _)) (pss_one (ps_ret (pe_tup (pa_cons pe_str (pa_cons pe_str pa_nil))))) pss_nil)
      (pss_cons (ps_set (i := 1) sc__law_strange.nd rfl (Or.inl rfl) (pe_tup pa_nil))
      (pss_cons (ps_for PassesOwn.never rfl (pi_range1 (by rfl) T.n_range (pa_cons pe_int pa_nil)) (pg_name (i := 2) sc__law_strange.nd rfl (Or.inl rfl))
        (pss_one (ps_set (i := 1) sc__law_strange.nd rfl (Or.inl rfl) (pe_tup (pa_cons (pv 1) pa_nil)))))
      (pss_one (ps_ret (pv 1)))))))), ?_⟩
    refine ⟨_, rfl, _, _, rfl, rfl, (by show (0 : Int) < _; decide), rfl, _, rfl, ifd (fun h0 => ?_) (fun h0 => ?_)⟩
    · exact ⟨(by show 1 ≤ sizeLine; decide), fun p hp => q _ (.list []) _ (same_upd hp) (.lst upd_same) ⟨by simp [fits], okV_lst _ _⟩⟩
    refine ⟨_, rfl, _, _, rfl, rfl, (by show (0 : Int) < _; decide), rfl, _, rfl, ifd (fun h1 => ?_) (fun h1 => ?_)⟩
    · exact fun p hp => q _ (.list []) _ (same_upd hp) (.dic upd_same) ⟨by simp [fits], okV_lst _ _⟩
    refine ⟨_, rfl, _, _, rfl, rfl, (by show (0 : Int) < _; decide), rfl, _, rfl, ifd (fun h2 => ?_) (fun h2 => ?_)⟩
    · refine ⟨(by show 2 ≤ sizeLine; decide), fun p hp => q _ (.tuple [.str "a", .str "b\nc"]) _ (same_upd hp) (.tup (sqt upd_same) (.cons (.str _) (.cons (.str _) .nil))) ⟨by decide +kernel, by decide +kernel⟩⟩
    refine ⟨(by show 0 ≤ sizeLine; decide), fun p hp => ?_⟩
    refine ⟨20, rfl, by decide, by decide, for_range (lo := 0) (n := 20) (fun j σ G => ∃ (v : V) (x2 : Option V), σ = [some (.int i), some v, x2] ∧ Same H G ∧ Dx K G v (chainE j)) ⟨.ref p, none, rfl, same_upd hp, .tup (sqt upd_same) .nil⟩ ?_ ?_⟩
    · rintro j σ G hj ⟨v, x2, rfl, s1, hd⟩
      refine ⟨_, rfl, (by show 1 ≤ sizeLine; decide), fun p2 hp2 => ⟨.ref p2, _, rfl, s1.trans (same_upd hp2), .tup (sqt upd_same) (.cons (dx_same (same_upd hp2) _ hd) .nil)⟩⟩
    · rintro σ G ⟨v, x2, rfl, s1, hd⟩
      exact ⟨_, rfl, q v _ G s1 hd ⟨chainE_fits 20, chainE_no 20 20 (by decide)⟩⟩
end
end My
namespace My
open PySem PySem.Spec PyProof.Rows L2
section
variable {X : Cx} {CX : CXT} {k : Nat} {f C : Addr} {fd : FuncData} {ps : List Str} {sp : Sp} {E : L2.St → XK} {m : Str} {pos apos : Pos} {e o : Expr} {es : List Expr} {ta : TE} {t : TA}
def tMethE (C : Addr) (m : Str) (sp : Sp) (E : L2.St → XK) (ta : TE) (t : TA) : TE := fun σ H Q => tMeth C m sp [] (E σ) ta t σ H Q
theorem pe_methS {pl : Sem Bool} (he : PE X o ta) (c : Cls X.K C) (hm : Meth X.K C m f) (F : FnOk X.prog X.w X.K X.mg X.base CX k f fd ps sp) (hr : Room k X.A) (hb : Binds X.K fd ps []) (hx : ∀ σ, PassesAt CX X σ (E σ)) (ha : PA X (e :: es) t)
    (hst : starEach (e :: es) X.env = (false, eval e X.env) :: starEach es X.env := by rfl) (hpl : (backTo pos (starEach es X.env)).any (·.1) = false := by rfl)
    (ht : eval (.Call (.Attribute o m apos) (e :: es) [] pos) X.env = (eval o X.env >>= fun ov => standAt apos.atName >>= fun _ => holding [ov] (getMethod ov m pl) >>= fun fm =>
      callWith pos fm.1 fm.2 (backTo pos (starEach (e :: es) X.env)) (backToKw pos (keywordEach [] X.env))) := by rfl) : PE X (.Call (.Attribute o m apos) (e :: es) [] pos) (tMethE C m sp E ta t) :=
  ⟨fun pins s σ H Q I h => PySem.W.methodCall_KW (pl := pl) (thn (he.run pins s σ H _ I h) fun u s1 ⟨x, H1, I1, rx, a, dx, fs, ex, ea, l, q⟩ => by
    subst ex
    obtain rfl : u = Value.ref a := rx
    exact getmeth_ok I1 ea c hm l (PySem.W.callWith_K (first := [.ref a]) (h₀ := X.base) I.ok.mod.kin hm.kp (thn (ha.run pos pins s1 σ H1 _ I1 q) fun us s2 ⟨vs, H2, I2, r, q2⟩ =>
      ⟨I2.kIn, run_fnS (us := .ref a :: us) (vs := .ref a :: vs) F hr hb (hx σ) I2 (.cons rfl r) (by have : sp (V.ref a :: (vs ++ [])) H2 Q (E σ) := q2; rwa [List.append_nil] at this)⟩) hst hpl)) ht⟩
end
theorem plain_strOk {x : Str} (h : plainS x = true) : PyData.strOk x = true := by
  unfold PyData.strOk
  unfold plainS at h
  rw [← Array.all_toList, List.all_eq_true]
  rw [List.all_eq_true] at h
  intro c hc
  have h1 := h c hc
  unfold plainC at h1
  refine decide_eq_true ?_
  simp only [Bool.not_eq_true', Bool.or_eq_false_iff, decide_eq_false_iff_not] at h1
  omega
mutual
theorem okV_flat : ∀ (n : Nat) (d : PyData), okV n d = true → Flat n d
  | n, .none, _ => flat_non n
  | n, .bool b, _ => flat_bl n b
  | n, .int i, _ => flat_int n i
  | n, .str x, h => flat_str n x (by rw [okV_str, Bool.and_eq_true] at h; exact plain_strOk h.2)
  | 0, .tuple ds, h => by rw [okV_tup0] at h; cases h
  | n + 1, .tuple ds, h => by
    rw [okV_tup, Bool.and_eq_true] at h
    exact flat_tup (okA_flat n ds h.2)
  | n, .list ds, h => by rw [okV_lst] at h; cases h
  | n, .dict ds, h => by cases n <;> simp [okV] at h
theorem okA_flat : ∀ (n : Nat) (ds : List PyData), okA n ds = true → ∀ d ∈ ds, Flat n d
  | _, [], _, d, hd => by cases hd
  | n, e :: ds, h, d, hd => by
    simp only [okA, Bool.and_eq_true] at h
    rcases List.mem_cons.mp hd with e' | hd
    · rw [e']; exact okV_flat n e h.1
    · exact okA_flat n ds h.2 d hd
end
theorem recs_sh {ds : List PyData} (h : ∀ d ∈ ds, GoodD d) : SeqAt.shaped (.list ds) = true := (flat_list fun d hd => okV_flat 20 d (h d hd).1).sh (by decide)
theorem pt_truthK {X : Cx} {K : PySem.W.Frag} {a : Expr} {ta : TE} (h : X.K = K) (ha : PE X a ta) (he : ∀ whole, isTrue a X.env whole = (do let v ← whole; standAt a.pos; holding [v] (truthy v))) : PT X a (fun σ H Q => ta σ H fun x H' => ∃ k, TruV K x H' k ∧ Q k H') := by
  subst h
  exact pt_truth ha he
theorem tb_isEi {K : PySem.W.Frag} {σ : L2.St} {H : Hp} {Q : Bool → Hp → Prop} {a D C : Addr} {b : Bool} {i : Nat} (hv : σ[i]? = some (some (.ref a))) (e : PySem.W.kitOne K (.ref D) (.ref C) = some b) (q : Q b H) :
    tB (tCB (fun xs H Q => Value.ref D = .ref D ∧ (none : Option Addr) = none ∧ rIsE K D a xs H Q) (tCons (tVar i) (tCons (tC (.ref C)) tNil))) σ H Q := ⟨.ref a, hv, rfl, rfl, .ref C, .ref C, b, rfl, fun _ h => h, e, b, rfl, q⟩
def sp_lref (C : Addr) (K : PySem.W.Frag) : Sp := fun vs H Q _ => ∃ (p l a : Addr) (xs : List V) (j : JS) (ds : List PyData) (k : Nat) (b : PyData) (rw : Bool), vs = [.ref p, .ref a, .bl rw] ∧ JAt C K H p l j ∧ H a = some (.lst xs) ∧ DxAll K H xs ds ∧ (∀ i d, ds[i]? = some d → i < k → GoodD d) ∧ ds[k]? = some b ∧ BadD b ∧ ds.length ≤ 2000 ∧
  ∀ H', Same H H' → Q (.bl true) H'
theorem JAt.same {C : Addr} {K : PySem.W.Frag} {H H' : Hp} {p l : Addr} {j : JS} (h : JAt C K H p l j) (s : Same H H') : JAt C K H' p l j := h.fr (L := []) (Fr.same s) (FT.same s) (by simp) (by simp)
section
variable {P : Program} {w : World} {K : PySem.W.Frag} {mg : Str → Option Value} {base : Heap}
theorem ok__law_refused (T : TX K mg) : FnOk P w K mg base CX0 26 T.a__law_refused T.d__law_refused ["journal", "records", "rewrites"] (sp_lref T.a_Journal K) := by
  refine T.F__law_refused.ok sc__law_refused (fun vs H Q E h => ?_) (fun cdv A outer s H vs Q E hr h => ?_)
  · obtain ⟨p, l, a, xs, j, ds, k, b, rw, rfl, _⟩ := h
    rfl
  · obtain ⟨p, l, a, xs, j, ds, k, b, rw, rfl, hJ, hS, hds, hgd, hk, hbd, hlen, q⟩ := h
    refine ⟨_, (pss_cons (ps_set (i := 3) sc__law_refused.nd rfl (Or.inl rfl) (pe_meth0 (pv 0) T.K_Journal T.m_Journal_records (ok_Journal_records T) (hr.mono (by decide)) T.b_Journal_records .nil pass0))
      (pss_cons (ps_set (i := 4) sc__law_refused.nd rfl (Or.inl rfl) (pe_meth0 (pv 0) T.K_Journal T.m_Journal_sectors_used (ok_Journal_sectors_used T) (hr.mono (by decide)) T.b_Journal_sectors_used .nil pass0))
      (pss_cons (L2N.ps_try_as (i := 5) rfl rfl sc__law_refused.nd rfl rfl ⟨rfl, by decide, .inl T.g_NotAValue⟩ HotE.takesN (fun W pn xe tk po => (pss_one (ps_if (pt_truthK (K := K) rfl (pv 2) (by intro _; rfl)) (pss_one (ps_expr (pe_methS (pv 0) T.K_Journal T.m_Journal_rewrite (ok_Journal_rewrite T) (hr.mono (by decide)) T.b_Journal_rewrite (fun σ => L2N.passAt tk σ) (pa_cons (pv 1) pa_nil)))) (pss_one (ps_expr (pe_methS (pv 0) T.K_Journal T.m_Journal_append (ok_Journal_append T) (hr.mono (by decide)) T.b_Journal_append (fun σ => L2N.passAt tk σ) (pa_cons (pv 1) pa_nil))))))) (fun a oe cls d pn hz hf => (pss_cons (ps_if (PW.pt (pw_or (pt_val (pe_callB (call_isE1 T.X_NotAValue hz.zc hf) (by rfl) T.n_isinstance (by decide +kernel) (pa_cons (pv 5) (pa_cons (pe_glob (v := .ref T.a_Malformed) (by rfl) T.g_Malformed rfl) pa_nil)))) (pw_or1 (pt_not (pt_val (pe_callB (call_isE1 T.X_NotAValue hz.zc hf) (by rfl) T.n_isinstance (by decide +kernel) (pa_cons (pv 5) (pa_cons (pe_glob (v := .ref T.a_CodecError) (by rfl) T.g_CodecError rfl) pa_nil)))))))) (pss_one (ps_ret pe_bl)) pss_nil)
          (pss_one (ps_ret (pe_and (pe_cmpR (opK_eqD (K := K) rfl hr.units) (HotE.pe_meth0H (pv 0) T.K_Journal T.m_Journal_records (okH_Journal_records T) (HotE.roomS (hr.mono (by decide))) (HotE.hotS hz hf) T.b_Journal_records HotE.passH) (pv 3) (nomark _)) (pe_one (pe_cmpR op_eq (HotE.pe_meth0H (pv 0) T.K_Journal T.m_Journal_sectors_used (okH_Journal_sectors_used T) (HotE.roomS (hr.mono (by decide))) (HotE.hotS hz hf) T.b_Journal_sectors_used HotE.passH) (pv 4) (nomark _)))))))))
      (pss_one (ps_ret pe_bl))))), ?_⟩
    have hsh := recs_sh hJ.g
    have hob : ∀ G, Same H G → ∃ dx, G p = some (.ins T.a_Journal dx (fl_Journal (.int (j.boot : Int)) (.int (j.gen : Int)) (.int (j.start : Int)) (.int (j.used : Int)) (.ref l))) := fun G s => (hJ.same s).ob
    obtain ⟨dx, ob⟩ := hob H (Same.refl _)
    refine ⟨_, rfl, p, dx, _, rfl, ob, fl_Journal_no_records, p, l, j, rfl, hJ, fun r vs G hr0 s1 er hdv => ?_⟩
    refine ⟨_, rfl, p, dx, _, rfl, s1 _ _ ob, fl_Journal_no_sectors_used, p, l, j, rfl, hJ.same s1, ?_⟩
    cases rw with
    | true =>
      refine ⟨_, rfl, true, rfl, ifbt rfl ?_⟩
      refine ⟨_, rfl, p, dx, _, rfl, s1 _ _ ob, fl_Journal_no_rewrite, _, rfl, .inr ⟨p, a, xs, ds, k, b, rfl, s1 _ _ hS, dxa_same s1 _ hds, hgd, hk, hbd.1, hbd.2, hlen, fun G2 s2 => ⟨true, T.ee_NotAValue, fun _ ea hea => ?_, fun z => (by cases z)⟩⟩⟩
      have s12 := s1.trans s2
      refine or_use (x := false) (y := false) (fun R r => tb_isEi rfl T.y_NotAValue_Malformed r) (fun R r => tb_isEi (i := 5) rfl T.y_NotAValue_CodecError r) ?_
      refine ifbf rfl ?_
      refine ⟨_, rfl, p, dx, _, rfl, s12 _ _ ob, fl_Journal_no_records, p, l, j, rfl, hJ.same s12, fun r2 vs2 G3 hr2 s3 er2 hdv2 => ?_⟩
      refine ⟨_, rfl, .list j.recs, .list j.recs, .lst (sql er2) hdv2, .lst (sql ((s2.trans s3) _ _ er)) (dpa_same (s2.trans s3) _ hdv), hsh, hsh, true, by rw [eqv_self hsh], (if_pos rfl).mpr ?_⟩
      have s13 := s12.trans s3
      refine ⟨_, rfl, p, dx, _, rfl, s13 _ _ ob, fl_Journal_no_sectors_used, p, l, j, rfl, hJ.same s13, _, rfl, rfl, ?_⟩
      rw [decide_eq_true rfl]
      exact q G3 s13
    | false =>
      refine ⟨_, rfl, false, rfl, ifbf rfl ?_⟩
      refine ⟨_, rfl, p, dx, _, rfl, s1 _ _ ob, fl_Journal_no_append, _, rfl, .inr ⟨p, a, xs, ds, k, b, rfl, s1 _ _ hS, dxa_same s1 _ hds, hgd, hk, hbd.1, hbd.2, hlen, fun G2 s2 => ⟨true, T.ee_NotAValue, fun _ ea hea => ?_, fun z => (by cases z)⟩⟩⟩
      have s12 := s1.trans s2
      refine or_use (x := false) (y := false) (fun R r => tb_isEi rfl T.y_NotAValue_Malformed r) (fun R r => tb_isEi (i := 5) rfl T.y_NotAValue_CodecError r) ?_
      refine ifbf rfl ?_
      refine ⟨_, rfl, p, dx, _, rfl, s12 _ _ ob, fl_Journal_no_records, p, l, j, rfl, hJ.same s12, fun r2 vs2 G3 hr2 s3 er2 hdv2 => ?_⟩
      refine ⟨_, rfl, .list j.recs, .list j.recs, .lst (sql er2) hdv2, .lst (sql ((s2.trans s3) _ _ er)) (dpa_same (s2.trans s3) _ hdv), hsh, hsh, true, by rw [eqv_self hsh], (if_pos rfl).mpr ?_⟩
      have s13 := s12.trans s3
      refine ⟨_, rfl, p, dx, _, rfl, s13 _ _ ob, fl_Journal_no_sectors_used, p, l, j, rfl, hJ.same s13, _, rfl, rfl, ?_⟩
      rw [decide_eq_true rfl]
      exact q G3 s13
end
end My
namespace My
open PySem PySem.Spec PyProof.Rows L2
theorem parts_small (g b : Nat) : ∀ (r : Nat) (ds : List PyData), (∀ d ∈ ds, RecD d) → (allParts g b r (ds.map pkL)).length ≤ 5 * ds.length
  | _, [], _ => Nat.le_refl _
  | r, d :: ds, h => by
    rw [List.map_cons, allParts, List.length_append]
    have h1 := parts_small g b (r + 1) ds fun e he => h e (by simp [he])
    have h2 := (h d (by simp)).l
    have h3 : (partsOf g b r (pkL d)).length = pc (pkL d).length := by unfold partsOf; rw [List.length_map, List.length_range]
    rw [h3, List.length_cons]
    unfold pc
    omega
theorem slK_list {K : PySem.W.Frag} {X : Cx} (h : X.K = K) : SlR X (rSlL K) := by subst h; exact sl_list
theorem mk_0 {C : Addr} {K : PySem.W.Frag} {H : Hp} {pk : Addr} {boot : Nat} {z : Int} {Q : VK} {E : XK} (hz : z = (boot : Int)) (ek : H pk = some (.lst [])) {x dx : Addr} (hx : H x = none) (hdx : H dx = none)
    (k : ∀ lj H2, H lj = none → Same H H2 → JAt C K H2 x lj ⟨boot, 0, 2, 0, []⟩ → Q .non H2) : sp_jinit C K (.ref x :: ([.ref pk, .int z] ++ [])) (upd (upd H dx (.own x)) x (.ins C dx [])) Q E := by
  subst hz
  have s : Same H (upd (upd H dx (.own x)) x (.ins C dx [])) := same_put (same_upd hdx) hx
  refine ⟨x, pk, dx, [], [], boot, 0, [], rfl, upd_same, s _ _ ek, ⟨rfl, fun i s hs => by simp at hs, fun s hs => by cases hs⟩, fun i _ => True.intro, .nil rfl, Nat.zero_le _, fun l H' hl' fr ft hJ => ?_⟩
  exact k l H' (none_of s hl') (fun y o hy => fr y o (s y o hy) (by simpa using fun z => by rw [z, hx] at hy; cases hy)) hJ
/-- the law's state: two journals, two lists of what they hold -/
structure W13 (C : Addr) (K : PySem.W.Frag) (H : Hp) (pd jl sl : Addr) (ds : List Int) (p l a : Nat → Addr) (j : Nat → JS) (us : Nat → List V) (t : Nat) : Prop where
  d : H pd = some (.lst (ds.map V.int))
  hj : H jl = some (.lst [.ref (p 0), .ref (p 1)])
  hs : H sl = some (.lst [.ref (a 0), .ref (a 1)])
  J : ∀ k, k < 2 → JAt C K H (p k) (l k) (j k)
  S : ∀ k, k < 2 → H (a k) = some (.lst (us k)) ∧ DpAll K H (us k) (j k).recs
  pp : ∀ k m, k < 2 → m < 2 → k ≠ m → p k ≠ p m
  ll : ∀ k m, k < 2 → m < 2 → k ≠ m → l k ≠ l m
  nd : ∀ k, k < 2 → pd ≠ l k
  nj : ∀ k, k < 2 → jl ≠ l k
  ns : ∀ k, k < 2 → sl ≠ l k
  na : ∀ k m, k < 2 → m < 2 → a k ≠ l m
  as : ∀ k, k < 2 → a k ≠ sl
  dsl : pd ≠ sl
  jsl : jl ≠ sl
  bd : ∀ k, k < 2 → (j k).boot ≤ 5 ∧ (j k).gen ≤ t ∧ 2 ≤ (j k).start ∧ (j k).start + (j k).used ≤ 2 + 20 * t ∧ (j k).recs.length ≤ 4 * t
  rc : ∀ k, k < 2 → ∀ d ∈ (j k).recs, RecD d
section
variable {C : Addr} {K : PySem.W.Frag} {H H' : Hp} {pd jl sl : Addr} {ds : List Int} {p l a : Nat → Addr} {j : Nat → JS} {us : Nat → List V} {t : Nat}
theorem W13.same (h : W13 C K H pd jl sl ds p l a j us t) (s : Same H H') : W13 C K H' pd jl sl ds p l a j us t :=
  ⟨s _ _ h.d, s _ _ h.hj, s _ _ h.hs, fun k hk => (h.J k hk).same s, fun k hk => ⟨s _ _ (h.S k hk).1, dpa_same s _ (h.S k hk).2⟩, h.pp, h.ll, h.nd, h.nj, h.ns, h.na, h.as, h.dsl, h.jsl, h.bd, h.rc⟩
theorem at2 {f : Nat → Addr} {w : Nat} (hw : w < 2) : atI [V.ref (f 0), V.ref (f 1)] (w : Int) = some (.ref (f w)) := by
  have : w = 0 ∨ w = 1 := by omega
  rcases this with rfl | rfl <;> rfl
/-- a list that stands, and is none that a journal holds -/
theorem W13.fresh (h : W13 C K H pd jl sl ds p l a j us t) {q : Addr} (hq : H q = none) : (∀ k, k < 2 → q ≠ l k) ∧ q ≠ sl := by
  refine ⟨fun k hk z => ?_, fun z => by rw [z, h.hs] at hq; cases hq⟩
  obtain ⟨vs, e, _⟩ := (h.J k hk).rl
  rw [z, e] at hq
  cases hq
def putN {α : Type} (f : Nat → α) (w : Nat) (x : α) : Nat → α := fun k => if k = w then x else f k
theorem putN_at {α : Type} (f : Nat → α) (w : Nat) (x : α) : putN f w x w = x := if_pos rfl
theorem putN_ne {α : Type} (f : Nat → α) {w k : Nat} (x : α) (h : k ≠ w) : putN f w x k = f k := if_neg h
theorem W13.step {G2 : Hp} {w : Nat} {l' x : Addr} {j' : JS} {xs : List V} (h : W13 C K H pd jl sl ds p l a j us t) (hw : w < 2) (fr : Fr [p w, l w] H G2) (ft : FT H G2) (hJ : JAt C K G2 (p w) l' j') (hl : l' = l w ∨ H l' = none) (hx : G2 x = some (.lst xs)) (hxd : DpAll K G2 xs j'.recs)
    (nx1 : ∀ k, k < 2 → x ≠ l k) (nx2 : x ≠ l') (nx3 : x ≠ sl) (b : j'.boot ≤ 5 ∧ j'.gen ≤ t + 1 ∧ 2 ≤ j'.start ∧ j'.start + j'.used ≤ 2 + 20 * (t + 1) ∧ j'.recs.length ≤ 4 * (t + 1)) (rc : ∀ d ∈ j'.recs, RecD d) :
    W13 C K (upd G2 sl (.lst [.ref (putN a w x 0), .ref (putN a w x 1)])) pd jl sl ds p (putN l w l') (putN a w x) (putN j w j') (putN us w xs) (t + 1) := by
  have ob : ∀ k, k < 2 → ∃ dx fs, H (p k) = some (.ins C dx fs) := fun k hk => by obtain ⟨dx, e⟩ := (h.J k hk).ob; exact ⟨dx, _, e⟩
  have lo : ∀ k, k < 2 → ∃ vs, H (l k) = some (.lst vs) := fun k hk => by obtain ⟨vs, e, _⟩ := (h.J k hk).rl; exact ⟨vs, e⟩
  obtain ⟨dxw, fsw, obw⟩ := ob w hw
  have lst : ∀ {q : Addr} {zs : List V}, H q = some (.lst zs) → q ≠ l w → G2 q = some (.lst zs) := fun {q zs} e n => fr _ _ e (by
    simp only [List.mem_cons, List.not_mem_nil, or_false, not_or]
    exact ⟨fun z => (by rw [z, obw] at e; cases e), n⟩)
  have slG : G2 sl = some _ := lst h.hs (h.ns w hw)
  have ft2 : FT G2 (upd G2 sl (.lst [.ref (putN a w x 0), .ref (putN a w x 1)])) := .up slG rfl
  have fr2 : Fr [sl] G2 (upd G2 sl (.lst [.ref (putN a w x 0), .ref (putN a w x 1)])) := (Fr.refl _ _).up (by simp)
  have nl : ∀ {q : Addr} {zs : List V}, H q = some (.lst zs) → q ≠ l w → q ≠ l' := fun {q zs} e n z => by
    rcases hl with hl | hl
    · exact n (z.trans hl)
    · rw [z, hl] at e; cases e
  have good : ∀ k, k < 2 → ∀ d ∈ (j k).recs, GoodD d := fun k hk d hd => (h.rc k hk d hd).good
  have eq : ∀ k, k < 2 → (putN l w l' k = l' ∧ putN a w x k = x ∧ putN j w j' k = j' ∧ putN us w xs k = xs ∧ k = w) ∨ (putN l w l' k = l k ∧ putN a w x k = a k ∧ putN j w j' k = j k ∧ putN us w xs k = us k ∧ k ≠ w) := fun k _ => by
    by_cases hk : k = w
    · subst hk; exact .inl ⟨putN_at _ _ _, putN_at _ _ _, putN_at _ _ _, putN_at _ _ _, rfl⟩
    · exact .inr ⟨putN_ne _ _ hk, putN_ne _ _ hk, putN_ne _ _ hk, putN_ne _ _ hk, hk⟩
  refine ⟨?_, ?_, upd_same, fun k hk => ?_, fun k hk => ?_, h.pp, fun k m hk hm hn => ?_, fun k hk => ?_, fun k hk => ?_, fun k hk => ?_, fun k m hk hm => ?_, fun k hk => ?_, h.dsl, h.jsl, fun k hk => ?_, fun k hk => ?_⟩
  · rw [upd_ne h.dsl]; exact lst h.d (h.nd w hw)
  · rw [upd_ne h.jsl]; exact lst h.hj (h.nj w hw)
  · have psl : ∀ k, k < 2 → p k ≠ sl := fun k hk z => by obtain ⟨dx, fs, e⟩ := ob k hk; rw [z, h.hs] at e; cases e
    rcases eq k hk with ⟨e1, e2, e3, e4, rfl⟩ | ⟨e1, e2, e3, e4, hn⟩
    · rw [e1, e3]
      have nsl : l' ≠ sl := fun z => nl h.hs (h.ns k hk) z.symm
      exact hJ.fr fr2 ft2 (by simpa using psl k hk) (by simpa using nsl)
    · rw [e1, e3]
      refine ((h.J k hk).fr fr ft ?_ ?_).fr fr2 ft2 (by simpa using psl k hk) (by simpa using (h.ns k hk).symm)
      · obtain ⟨vs, e⟩ := lo w hw
        obtain ⟨dx, fs, e'⟩ := ob k hk
        simp only [List.mem_cons, List.not_mem_nil, or_false, not_or]
        exact ⟨h.pp k w hk hw hn, fun z => by rw [z, e] at e'; cases e'⟩
      · obtain ⟨vs, e⟩ := lo k hk
        simp only [List.mem_cons, List.not_mem_nil, or_false, not_or]
        exact ⟨fun z => (by rw [z, obw] at e; cases e), h.ll k w hk hw hn⟩
  · rcases eq k hk with ⟨e1, e2, e3, e4, rfl⟩ | ⟨e1, e2, e3, e4, hn⟩
    · rw [e2, e3, e4, upd_ne nx3]
      exact ⟨hx, dpa_good ft2 (fun d hd => (rc d hd).good) hxd⟩
    · rw [e2, e3, e4, upd_ne (h.as k hk)]
      exact ⟨lst (h.S k hk).1 (h.na k w hk hw), dpa_good (ft.trans ft2) (good k hk) (h.S k hk).2⟩
  · rcases eq k hk with ⟨e1, _, _, _, k1⟩ | ⟨e1, _, _, _, k1⟩ <;> rcases eq m hm with ⟨e2, _, _, _, k2⟩ | ⟨e2, _, _, _, k2⟩ <;> rw [e1, e2]
    · exact absurd (k1.trans k2.symm) hn
    · obtain ⟨vs, e⟩ := lo m hm
      exact fun z => nl e (h.ll m w hm hw k2) z.symm
    · obtain ⟨vs, e⟩ := lo k hk
      exact nl e (h.ll k w hk hw k1)
    · exact h.ll k m hk hm hn
  · rcases eq k hk with ⟨e1, _, _, _, k1⟩ | ⟨e1, _, _, _, k1⟩ <;> rw [e1]
    · exact nl h.d (h.nd w hw)
    · exact h.nd k hk
  · rcases eq k hk with ⟨e1, _, _, _, k1⟩ | ⟨e1, _, _, _, k1⟩ <;> rw [e1]
    · exact nl h.hj (h.nj w hw)
    · exact h.nj k hk
  · rcases eq k hk with ⟨e1, _, _, _, k1⟩ | ⟨e1, _, _, _, k1⟩ <;> rw [e1]
    · exact nl h.hs (h.ns w hw)
    · exact h.ns k hk
  · rcases eq k hk with ⟨_, e1, _, _, k1⟩ | ⟨_, e1, _, _, k1⟩ <;> rcases eq m hm with ⟨e2, _, _, _, k2⟩ | ⟨e2, _, _, _, k2⟩ <;> rw [e1, e2]
    · exact nx2
    · exact nx1 m hm
    · exact nl (h.S k hk).1 (h.na k w hk hw)
    · exact h.na k m hk hm
  · rcases eq k hk with ⟨_, e1, _, _, k1⟩ | ⟨_, e1, _, _, k1⟩ <;> rw [e1]
    · exact nx3
    · exact h.as k hk
  · rcases eq k hk with ⟨_, _, e1, _, k1⟩ | ⟨_, _, e1, _, k1⟩ <;> rw [e1]
    · exact b
    · have := h.bd k hk; omega
  · rcases eq k hk with ⟨_, _, e1, _, k1⟩ | ⟨_, _, e1, _, k1⟩ <;> rw [e1]
    · exact rc
    · exact h.rc k hk
end
end My
namespace My
open PySem PySem.Spec PyProof.Rows L2
def two {α : Type} (x y : α) : Nat → α := fun k => if k = 0 then x else y
theorem two_all {P : Nat → Prop} (h0 : P 0) (h1 : P 1) : ∀ k, k < 2 → P k := fun k hk => by
  have : k = 0 ∨ k = 1 := by omega
  rcases this with rfl | rfl
  · exact h0
  · exact h1
theorem two_all2 {P : Nat → Nat → Prop} (h00 : P 0 0) (h01 : P 0 1) (h10 : P 1 0) (h11 : P 1 1) : ∀ k m, k < 2 → m < 2 → P k m := fun k m hk hm => two_all (P := fun k => P k m) (two_all (P := fun m => P 0 m) h00 h01 m hm) (two_all (P := fun m => P 1 m) h10 h11 m hm) k hk
theorem dxa_app {K : PySem.W.Frag} {H : Hp} : ∀ {xs ys : List V} {ds es : List PyData}, DxAll K H xs ds → DxAll K H ys es → DxAll K H (xs ++ ys) (ds ++ es)
  | _, _, _, _, .nil, h => h
  | _, _, _, _, .cons a r, h => .cons a (dxa_app r h)
theorem dxa_take {K : PySem.W.Frag} {H : Hp} : ∀ (n : Nat) {xs : List V} {ds : List PyData}, DxAll K H xs ds → DxAll K H (xs.take n) (ds.take n)
  | 0, _, _, _ => .nil
  | n + 1, _, _, .nil => .nil
  | n + 1, _, _, .cons a r => .cons a (dxa_take n r)
theorem dxa_drop {K : PySem.W.Frag} {H : Hp} : ∀ (n : Nat) {xs : List V} {ds : List PyData}, DxAll K H xs ds → DxAll K H (xs.drop n) (ds.drop n)
  | 0, _, _, h => h
  | n + 1, _, _, .nil => .nil
  | n + 1, _, _, .cons a r => dxa_drop n r
theorem set2 {f : Nat → Addr} {w : Nat} {x : Addr} (hw : w < 2) : [V.ref (f 0), V.ref (f 1)].set w (.ref x) = [.ref (putN f w x 0), .ref (putN f w x 1)] := by
  have : w = 0 ∨ w = 1 := by omega
  rcases this with rfl | rfl <;> rfl
theorem ix2 {w : Nat} (hw : w < 2) (x y : V) : ixN [x, y].length (w : Int) = some w := by
  have : w = 0 ∨ w = 1 := by omega
  rcases this with rfl | rfl <;> rfl
theorem ne_fresh {H : Hp} {x y : Addr} {o : HO} (h : H x = some o) (n : H y = none) : x ≠ y := fun z => by rw [z, n] at h; cases h
def sp_law (K : PySem.W.Frag) : Sp := fun vs H Q _ => ∃ (a : Addr) (ns : List Int), vs = [.ref a] ∧ SqL K H a (ns.map V.int) ∧ ns.length ≤ 63 ∧ ∀ H', Q (.bl true) H'
section
variable {P : Program} {w : World} {K : PySem.W.Frag} {mg : Str → Option Value} {base : Heap}
theorem ok_law (T : TX K mg) : FnOk P w K mg base CX0 48 T.a_law T.d_law ["script"] (sp_law K) := by
  refine T.F_law.ok sc_law (fun vs H Q E h => ?_) (fun cdv A outer s H vs Q E hr h => ?_)
  · obtain ⟨a, ns, rfl, _⟩ := h
    rfl
  · obtain ⟨a, ns, rfl, hS, hl, q⟩ := h
    refine ⟨_, (pss_cons (ps_set (i := 1) sc_law.nd rfl (Or.inl rfl) (pe_call (ok__law_draws T) (hr.mono (by decide)) (by rfl) T.g__law_draws T.F__law_draws.kp T.b__law_draws .nil pass0 (pa_cons (pv 0) (pa_cons pe_int pa_nil))))
      (pss_cons (ps_set (i := 2) sc_law.nd rfl (Or.inl rfl) (pe_lst (pa_cons (pe_make T.M_Journal (ok_Journal___init__ T) (hr.mono (by decide)) (by rfl) T.g_Journal T.b_Journal___init__ .nil pass0 (pa_cons (pe_lst pa_nil) (pa_cons pe_int pa_nil))) (pa_cons (pe_make T.M_Journal (ok_Journal___init__ T) (hr.mono (by decide)) (by rfl) T.g_Journal T.b_Journal___init__ .nil pass0 (pa_cons (pe_lst pa_nil) (pa_cons pe_int pa_nil))) pa_nil))))
      (pss_cons (ps_set (i := 3) sc_law.nd rfl (Or.inl rfl) (pe_lst (pa_cons (pe_lst pa_nil) (pa_cons (pe_lst pa_nil) pa_nil))))
      (pss_cons (ps_for PassesOwn.never rfl (pi_range1 (by rfl) T.n_range (pa_cons (pe_op op_add pe_int (pe_op op_mod (pe_callTy call_int1 (by rfl) T.n_int (by decide +kernel) (pa_cons (pe_ix ix_list (pv 1) pe_int (fun _ _ => rfl)) pa_nil)) pe_int)) pa_nil)) (pg_name (i := 4) sc_law.nd rfl (Or.inl rfl))
        (pss_cons (ps_set (i := 5) sc_law.nd rfl (Or.inr rfl) (pe_slice sl_list (pv 1) (po_some (pe_op op_add pe_int (pe_op op_mul pe_int (pv 4)))) (po_some (pe_op op_add pe_int (pe_op op_mul pe_int (pv 4))))))
        (pss_cons (ps_set (i := 6) sc_law.nd rfl (Or.inl rfl) (pe_op op_mod (pe_callTy call_int1 (by rfl) T.n_int (by decide +kernel) (pa_cons (pe_ix ix_list (pv 5) pe_int (fun _ _ => rfl)) pa_nil)) pe_int))
        (pss_cons (ps_setLc (i := 7) (own := [("k", 12)]) (g := gName 12) (tt := tYes) (by rfl) sc_law.nd rfl rfl (sw_true rfl rfl rfl (by decide +kernel)) (pi_range1 (by rfl) T.n_range (pa_cons (pe_op op_mod (pe_callTy call_int1 (by rfl) T.n_int (by decide +kernel) (pa_cons (pe_ix ix_list (pv 5) pe_int (fun _ _ => rfl)) pa_nil)) pe_int) pa_nil)) (blkOk_by (own := [("k", 12)]) (N := ["script", "draws", "journals", "shown", "turn", "part", "which", "records", "rewrites", "at", "strange", "again", "k"]) (sc := defScope s_law) (by decide +kernel)) (fun _ _ _ _ _ => pg_name (i := 12) sc_law.nd rfl (Or.inl rfl)) (fun _ _ _ _ _ => pts_nil) (fun _ _ _ _ _ => (pe_call (ok__law_record T) (hr.mono (by decide)) (by rfl) T.g__law_record T.F__law_record.kp T.b__law_record .nil pass0 (pa_cons (pe_slice (slK_list (K := K) rfl) (pv 5) (po_some (pe_op op_add pe_int (pe_op op_mul pe_int (pv 12)))) (po_some (pe_op op_add pe_int (pe_op op_mul pe_int (pv 12))))) pa_nil))))
        (pss_cons (ps_set (i := 8) sc_law.nd rfl (Or.inl rfl) (pe_cmpR op_eq (pe_op op_mod (pe_ix ix_list (pv 5) pe_int (fun _ _ => rfl)) pe_int) pe_int (nomark _)))
        (C8.pss_cut (ps_if (pt_cmpR op_eq (pe_op op_mod (pe_ix ix_list (pv 5) pe_int (fun _ _ => rfl)) pe_int) pe_int (nomark _)) (pss_cons (ps_set (i := 9) sc_law.nd rfl (Or.inl rfl) (pe_op op_mod (pe_callTy call_int1 (by rfl) T.n_int (by decide +kernel) (pa_cons (pe_ix ix_list (pv 5) pe_int (fun _ _ => rfl)) pa_nil)) (pe_op op_add (pe_callB call_len_seq (by rfl) T.n_len PySem.boot_len (pa_cons (pv 7) pa_nil)) pe_int)))
          (pss_cons (ps_set (i := 10) sc_law.nd rfl (Or.inl rfl) (pe_op op_cat (pe_op op_cat (pe_slice sl_list (pv 7) po_none (po_some (pv 9))) (pe_lst (pa_cons (pe_call (ok__law_strange T) (hr.mono (by decide)) (by rfl) T.g__law_strange T.F__law_strange.kp T.b__law_strange .nil pass0 (pa_cons (pe_callTy call_int1 (by rfl) T.n_int (by decide +kernel) (pa_cons (pe_ix ix_list (pv 5) pe_int (fun _ _ => rfl)) pa_nil)) pa_nil)) pa_nil))) (pe_slice sl_list (pv 7) (po_some (pv 9)) po_none)))
          (pss_one (ps_for PassesOwn.never rfl (pi_range1 (by rfl) T.n_range (pa_cons pe_int pa_nil)) (pg_name (i := 11) sc_law.nd rfl (Or.inl rfl))
            (pss_one (ps_if (pt_not (pt_val (pe_call (ok__law_refused T) (hr.mono (by decide)) (by rfl) T.g__law_refused T.F__law_refused.kp T.b__law_refused .nil pass0 (pa_cons (pe_ix ix_list (pv 2) (pv 6) (fun _ _ => rfl)) (pa_cons (pe_callTy call_list_of (by rfl) T.n_list (by decide +kernel) (pa_cons (pv 10) pa_nil)) (pa_cons (pv 8) pa_nil)))))) (pss_one (ps_ret pe_bl)) pss_nil)))))) pss_nil)
        (C8.pss_cut (ps_if (pt_truth (pv 8) (by intro _; rfl)) (pss_cons (ps_expr (pe_meth (pe_ix ix_list (pv 2) (pv 6) (fun _ _ => rfl)) T.K_Journal T.m_Journal_rewrite (ok_Journal_rewrite T) (hr.mono (by decide)) T.b_Journal_rewrite .nil HotE.passN (pa_cons (pv 7) pa_nil)))
          (pss_one (ps_asg (pv 7) (pg_sub (pv 3) (pv 6) set_list)))) (pss_cons (ps_expr (pe_meth (pe_ix ix_list (pv 2) (pv 6) (fun _ _ => rfl)) T.K_Journal T.m_Journal_append (ok_Journal_append T) (hr.mono (by decide)) T.b_Journal_append .nil HotE.passN (pa_cons (pv 7) pa_nil)))
          (pss_one (ps_asg (pe_op op_cat (pe_ix ix_list (pv 3) (pv 6) (fun _ _ => rfl)) (pv 7)) (pg_sub (pv 3) (pv 6) set_list)))))
        (pss_one (ps_for PassesOwn.never rfl (pi_range1 (by rfl) T.n_range (pa_cons pe_int pa_nil)) (pg_name (i := 12) sc_law.nd rfl (Or.inl rfl))
          (pss_one (ps_if (pt_cmpR (op_neD hr.units) (pe_meth0 (pe_ix ix_list (pv 2) (pv 12) (fun _ _ => rfl)) T.K_Journal T.m_Journal_records (ok_Journal_records T) (hr.mono (by decide)) T.b_Journal_records .nil pass0) (pe_ix ix_list (pv 3) (pv 12) (fun _ _ => rfl)) (nomark _)) (pss_one (ps_ret pe_bl)) pss_nil)))))))))))
      (pss_one (ps_ret pe_bl)))))), ?_⟩
    refine ⟨_, rfl, a, ns, 400, rfl, hS, hl, by decide, fun pd H1 ds _ s1 ed hd hdl => ?_⟩
    have hat : ∀ k : Nat, k < 400 → ∃ d, atI (ds.map V.int) (k : Int) = some (.int d) ∧ 0 ≤ d ∧ d < 997 := fun k hk => by
      have hk' : k < ds.length := by omega
      exact ⟨ds[k], at_map (List.getElem?_eq_getElem hk'), hd _ (List.getElem_mem hk')⟩
    obtain ⟨d0, hd0, a0, b0⟩ := hat 0 (by decide)
    -- the journals
    refine ⟨Nat.zero_le _, fun e0 he0 p0 dx0 hp0 hdx0 hne0 => mk_0 (boot := 1) rfl upd_same hp0 hdx0 fun l0 H2 hl0 s2 hJ0 => ⟨rfl, ?_⟩⟩
    have ed2 := s2 _ _ (same_upd he0 _ _ ed)
    have s12 : Same H1 H2 := (same_upd he0).trans s2
    obtain ⟨dz, obz⟩ := hJ0.ob
    obtain ⟨vz, elz, _⟩ := hJ0.rl
    have npd0 : pd ≠ l0 := ne_fresh (same_upd he0 _ _ ed) hl0
    refine ⟨Nat.zero_le _, fun e1 he1 p1 dx1 hp1 hdx1 hne1 => mk_0 (boot := 5) rfl upd_same hp1 hdx1 fun l1 H3 hl1 s3 hJ1 => ⟨rfl, ?_⟩⟩
    have n1 : p0 ≠ p1 := ne_fresh (same_upd he1 _ _ obz) hp1
    have n2 : l0 ≠ l1 := ne_fresh (same_upd he1 _ _ elz) hl1
    have npd1 : pd ≠ l1 := ne_fresh (same_upd he1 _ _ ed2) hl1
    have s23 : Same H2 H3 := (same_upd he1).trans s3
    have hJ0 := hJ0.same s23
    have ed3 := s23 _ _ ed2
    refine ⟨(by show 2 ≤ sizeLine; decide), fun jl hjl => ?_⟩
    refine ⟨Nat.zero_le _, fun a0 ha0 => ⟨Nat.zero_le _, fun a1 ha1 => ⟨(by show 2 ≤ sizeLine; decide), fun sl hsl => ?_⟩⟩⟩
    have t1 := same_upd (o := .lst [.ref p0, .ref p1]) hjl
    have t2 := same_upd (o := .lst []) ha0
    have t3 := same_upd (o := .lst []) ha1
    have t4 := same_upd (o := .lst [.ref a0, .ref a1]) hsl
    have t14 := t1.trans (t2.trans (t3.trans t4))
    have ej := (t2.trans (t3.trans t4)) _ _ (upd_same (H := H3) (a := jl) (o := .lst [.ref p0, .ref p1]))
    have ea0 := (t3.trans t4) _ _ (upd_same (H := upd H3 jl (.lst [.ref p0, .ref p1])) (a := a0) (o := .lst []))
    have ea1 := t4 _ _ (upd_same (H := upd (upd H3 jl (.lst [.ref p0, .ref p1])) a0 (.lst [])) (a := a1) (o := .lst []))
    have es : (upd (upd (upd (upd H3 jl (.lst [.ref p0, .ref p1])) a0 (.lst [])) a1 (.lst [])) sl (.lst [.ref a0, .ref a1])) sl = some (.lst [.ref a0, .ref a1]) := upd_same
    obtain ⟨dy0, ob0⟩ := hJ0.ob
    obtain ⟨v0, el0, _⟩ := hJ0.rl
    obtain ⟨dy1, ob1⟩ := hJ1.ob
    obtain ⟨v1, el1, _⟩ := hJ1.rl
    have hW : W13 T.a_Journal K (upd (upd (upd (upd H3 jl (.lst [.ref p0, .ref p1])) a0 (.lst [])) a1 (.lst [])) sl (.lst [.ref a0, .ref a1])) pd jl sl ds (two p0 p1) (two l0 l1) (two a0 a1) (two ⟨1, 0, 2, 0, []⟩ ⟨5, 0, 2, 0, []⟩) (two [] []) 0 := by
      have nsl : ∀ {x : Addr} {o : HO}, H3 x = some o → x ≠ sl := fun e => ne_fresh ((t1.trans (t2.trans t3)) _ _ e) hsl
      have na1 : ∀ {x : Addr} {o : HO}, H3 x = some o → x ≠ a1 := fun e => ne_fresh ((t1.trans t2) _ _ e) ha1
      have na0 : ∀ {x : Addr} {o : HO}, H3 x = some o → x ≠ a0 := fun e => ne_fresh (t1 _ _ e) ha0
      have nj : ∀ {x : Addr} {o : HO}, H3 x = some o → x ≠ jl := fun e => ne_fresh e hjl
      refine ⟨t14 _ _ ed3, ej, es, two_all (hJ0.same t14) (hJ1.same t14), two_all ⟨ea0, .nil⟩ ⟨ea1, .nil⟩, ?_, ?_, two_all npd0 npd1, two_all (nj el0).symm (nj el1).symm, two_all (nsl el0).symm (nsl el1).symm, ?_, two_all (ne_fresh (t3 _ _ upd_same) hsl) (ne_fresh upd_same hsl), nsl ed3, ne_fresh ((t2.trans t3) _ _ upd_same) hsl, ?_, ?_⟩
      · exact two_all2 (fun z => absurd rfl z) (fun _ => n1) (fun _ => n1.symm) fun z => absurd rfl z
      · exact two_all2 (fun z => absurd rfl z) (fun _ => n2) (fun _ => n2.symm) fun z => absurd rfl z
      · exact two_all2 (na0 el0).symm (na0 el1).symm (na1 el0).symm (na1 el1).symm
      · exact two_all ⟨(by show 1 ≤ 5; decide), Nat.le_refl _, Nat.le_refl _, Nat.le_refl _, Nat.le_refl _⟩ ⟨(by show 5 ≤ 5; decide), Nat.le_refl _, Nat.le_refl _, Nat.le_refl _, Nat.le_refl _⟩
      · exact two_all (fun d hd => by cases hd) fun d hd => by cases hd
    generalize upd (upd (upd (upd H3 jl (.lst [.ref p0, .ref p1])) a0 (.lst [])) a1 (.lst [])) sl (.lst [.ref a0, .ref a1]) = H4 at hW
    generalize two p0 p1 = p at hW
    generalize two l0 l1 = l at hW
    generalize two a0 a1 = aa at hW
    generalize two (⟨1, 0, 2, 0, []⟩ : JS) ⟨5, 0, 2, 0, []⟩ = j at hW
    generalize two ([] : List V) [] = us at hW
    clear t1 t2 t3 t4 t14 ej ea0 ea1 es ob0 el0 ob1 el1 obz elz
    refine ⟨_, rfl, pd, _, 0, _, rfl, rfl, sql hW.d, hd0, .inl ⟨_, rfl, _, _, rfl, rfl, (by show (0 : Int) < _; decide), _, _, rfl, rfl, _, rfl, by omega, by omega, ?_⟩⟩
    refine for_range (lo := 0) (n := _) (fun t σ G => ∃ (p l aa : Nat → Addr) (j : Nat → JS) (us : Nat → List V) (x4 x5 x6 x7 x8 x9 x10 x11 x12 : Option V), W13 T.a_Journal K G pd jl sl ds p l aa j us t ∧ σ = [some (.ref a), some (.ref pd), some (.ref jl), some (.ref sl), x4, x5, x6, x7, x8, x9, x10, x11, x12]) ⟨p, l, aa, j, us, none, none, none, none, none, none, none, none, none, hW, rfl⟩ ?_ ?_
    · rintro t σ G ht ⟨p, l, aa, j, us, x4, x5, x6, x7, x8, x9, x10, x11, x12, hW, rfl⟩
      have ht8 : t < 8 := by omega
      have eA : (1 : Int) + 40 * (0 + (t : Int)) = ((1 + 40 * t : Nat) : Int) := by omega
      have eB : (41 : Int) + 40 * (0 + (t : Int)) = ((41 + 40 * t : Nat) : Int) := by omega
      refine ⟨_, rfl, _, rfl, _, _, rfl, rfl, .inl ⟨by decide, by decide⟩, _, _, rfl, rfl, _, rfl, _, rfl, _, _, rfl, rfl, .inl ⟨by decide, by decide⟩, _, _, rfl, rfl, _, rfl, pd, _, rfl, sql hW.d, fun pp hpp => ?_⟩
      rw [cut_ints ds eA eB]
      have hcl : ((ds.drop (1 + 40 * t)).take (41 + 40 * t - (1 + 40 * t))).length = 40 := by rw [List.length_take, List.length_drop]; omega
      have hcd : Drawn ((ds.drop (1 + 40 * t)).take (41 + 40 * t - (1 + 40 * t))) := fun x hx => hd x (List.mem_of_mem_drop (List.mem_of_mem_take hx))
      generalize (ds.drop (1 + 40 * t)).take (41 + 40 * t - (1 + 40 * t)) = part at hcl hcd
      have s7 := same_upd (o := .lst (part.map V.int)) hpp
      have ep : (upd G pp (.lst (part.map V.int))) pp = some (.lst (part.map V.int)) := upd_same
      have hW1 := hW.same s7
      generalize upd G pp (.lst (part.map V.int)) = G1 at s7 ep hW1
      clear hW s7 hpp
      have gp : ∀ {j : Nat} (h : j < part.length), atI (part.map V.int) (j : Int) = some (.int part[j]) := fun h => at_map (List.getElem?_eq_getElem h)
      have hbp : ∀ {j : Nat} (h : j < part.length), 0 ≤ part[j] ∧ part[j] < 997 := fun h => hcd _ (List.getElem_mem h)
      have b0 := hbp (show 0 < part.length by omega)
      have b1 := hbp (show 1 < part.length by omega)
      have b4 := hbp (show 4 < part.length by omega)
      have g0 := gp (show 0 < part.length by omega)
      have g1 := gp (show 1 < part.length by omega)
      have g2 := gp (show 2 < part.length by omega)
      have g3 := gp (show 3 < part.length by omega)
      have g4 := gp (show 4 < part.length by omega)
      have g5 := gp (show 5 < part.length by omega)
      generalize part[0] = q0 at b0 g0
      generalize part[1] = q1 at b1 g1
      generalize part[2] = q2 at g2
      generalize part[3] = q3 at g3
      generalize part[4] = q4 at b4 g4
      generalize part[5] = q5 at g5
      obtain ⟨wh, hwh, hw2⟩ : ∃ wh : Nat, q0 % 2 = (wh : Int) ∧ wh < 2 := ⟨(q0 % 2).toNat, by omega, by omega⟩
      refine ⟨_, rfl, pp, _, ((0 : Nat) : Int), .int q0, rfl, rfl, sql ep, g0, .inl ⟨_, rfl, _, _, rfl, rfl, (by show (0 : Int) < _; decide), ?_⟩⟩
      dsimp only
      rw [hwh]
      refine ⟨_, rfl, pp, _, ((1 : Nat) : Int), .int q1, rfl, rfl, sql ep, g1, .inl ⟨_, rfl, _, _, rfl, rfl, (by show (0 : Int) < _; decide), _, rfl, by omega, by omega, fun pa hpa => ?_⟩⟩
      refine lc_range (lo := 0) (n := _) (fun k H' => Same G1 H' ∧ ∃ (vs : List V) (as : List PyData), H' pa = some (.lst vs) ∧ DpAll K H' vs as ∧ (∀ d ∈ as, RecD d) ∧ as.length = k) ⟨same_upd hpa, [], [], upd_same, .nil, (fun _ z => by cases z), rfl⟩ ?_ ?_
      · rintro k H3 hk ⟨s3, vs, as, e3, hds, hrs, hal⟩
        have hk3 : k < 4 := by omega
        refine ⟨rfl, ?_⟩
        dsimp only [tYes]
        refine (if_pos rfl).mpr ?_
        have fA : (6 : Int) + 8 * (0 + (k : Int)) = ((6 + 8 * k : Nat) : Int) := by omega
        have fB : (14 : Int) + 8 * (0 + (k : Int)) = ((14 + 8 * k : Nat) : Int) := by omega
        refine ⟨_, rfl, _, rfl, _, _, rfl, rfl, .inl ⟨by decide, by decide⟩, _, _, rfl, rfl, _, rfl, _, rfl, _, _, rfl, rfl, .inl ⟨by decide, by decide⟩, _, _, rfl, rfl, _, rfl, pp, _, rfl, sql (s3 _ _ ep), fun ps hps => ?_⟩
        dsimp only
        rw [cut_ints part fA fB]
        have s4 := same_upd (o := .lst (((part.drop (6 + 8 * k)).take (14 + 8 * k - (6 + 8 * k))).map V.int)) hps
        refine ⟨ps, _, rfl, sql upd_same, fun x hx => hcd x (List.mem_of_mem_drop (List.mem_of_mem_take hx)), by rw [List.length_take, List.length_drop]; omega, fun v d H4 s5 hdv hrec => ?_⟩
        have s45 := s4.trans s5
        have e4 := s45 _ _ e3
        have hvl := dpa_len hds
        have ft : FT H4 (upd H4 pa (.lst (vs ++ [v]))) := .up e4 rfl
        have hrs' : ∀ x ∈ as ++ [d], RecD x := fun x hx => by
          rcases List.mem_append.mp hx with h1 | h1
          · exact hrs x h1
          · rw [List.mem_singleton.mp h1]; exact hrec
        exact ⟨vs, e4, szl (by omega), same_put (s3.trans s45) hpa, vs ++ [v], as ++ [d], upd_same, dpa_good ft (fun x hx => (hrs' x hx).good) (dpa_app (dpa_same s45 _ hds) (.cons hdv .nil)), hrs', by rw [List.length_append, hal]; rfl⟩
      rintro G3 ⟨s3, vs, as, ea, hds, hrs, hal⟩
      have has : as.length ≤ 4 := by omega
      clear hal
      have hgas : ∀ d ∈ as, GoodD d := fun d hd => (hrs d hd).good
      have hvl := dpa_len hds
      obtain ⟨npa, npas⟩ := hW1.fresh hpa
      have hW3 := hW1.same s3
      have ep3 := s3 _ _ ep
      clear hW1 ep s3 hpa
      refine ⟨_, rfl, pp, _, ((2 : Nat) : Int), .int q2, rfl, rfl, sql ep3, g2, _, _, rfl, rfl, (by show (0 : Int) < _; decide), rfl, ?_⟩
      generalize decide (V.int (q2 % 3) = V.int 0) = rwb
      refine ⟨fun σ' G' => Same G3 G' ∧ ∃ y9 y10 y11 : Option V, σ' = [some (.ref a), some (.ref pd), some (.ref jl), some (.ref sl), some (.int (0 + (t : Int))), some (.ref pp), some (.int (wh : Int)), some (.ref pa), some (.bl rwb), y9, y10, y11, x12], ?_, ?_⟩
      · refine ⟨_, rfl, pp, _, ((3 : Nat) : Int), .int q3, rfl, rfl, sql ep3, g3, _, _, rfl, rfl, (by show (0 : Int) < _; decide), rfl, _, rfl, ifd (fun _ => ?_) (fun _ => ⟨Same.refl _, x9, x10, x11, rfl⟩)⟩
        obtain ⟨n4, hn4, hn4l⟩ : ∃ n4 : Nat, q4 % ((vs.length : Int) + 1) = (n4 : Int) ∧ n4 ≤ vs.length := ⟨(q4 % ((vs.length : Int) + 1)).toNat, by have := Int.emod_nonneg q4 (show ((vs.length : Int) + 1) ≠ 0 by omega); omega, by have := Int.emod_lt_of_pos q4 (show 0 < ((vs.length : Int) + 1) by omega); omega⟩
        refine ⟨_, rfl, pp, _, ((4 : Nat) : Int), .int q4, rfl, rfl, sql ep3, g4, .inl ⟨_, rfl, _, rfl, pa, vs, rfl, .inl (sql ea), _, _, rfl, rfl, _, _, rfl, rfl, (by show (0 : Int) < _; omega), ?_⟩⟩
        dsimp only
        rw [hn4]
        refine ⟨_, rfl, _, rfl, _, rfl, pa, _, rfl, sql ea, fun c1 hc1 => ?_⟩
        rw [cut0n]
        have u1 := same_upd (o := .lst (vs.take n4)) hc1
        have k1 : (upd G3 c1 (.lst (vs.take n4))) c1 = some (.lst (vs.take n4)) := upd_same
        generalize upd G3 c1 (.lst (vs.take n4)) = K1 at u1 k1
        refine ⟨_, rfl, pp, _, ((5 : Nat) : Int), .int q5, rfl, rfl, sql (u1 _ _ ep3), g5, .inl ⟨_, rfl, q5, rfl, fun sv sd K2 u2 hsv hbd => ?_⟩⟩
        refine ⟨(by show 1 ≤ sizeLine; decide), fun c2 hc2 => ?_⟩
        have u3 := same_upd (o := .lst [sv]) hc2
        have k3 : (upd K2 c2 (.lst [sv])) c2 = some (.lst [sv]) := upd_same
        generalize upd K2 c2 (.lst [sv]) = K3 at u3 k3
        have u23 := u2.trans u3
        refine ⟨c1, c2, _, _, rfl, rfl, u23 _ _ k1, k3, sz (by rw [List.length_take]; simp only [List.length_cons, List.length_nil]; omega), fun c3 hc3 => ?_⟩
        have u4 := same_upd (o := .lst (vs.take n4 ++ [sv])) hc3
        have k4 : (upd K3 c3 (.lst (vs.take n4 ++ [sv]))) c3 = some (.lst (vs.take n4 ++ [sv])) := upd_same
        generalize upd K3 c3 (.lst (vs.take n4 ++ [sv])) = K4 at u4 k4
        have u14 := u1.trans (u23.trans u4)
        refine ⟨_, rfl, _, rfl, _, rfl, pa, _, rfl, sql (u14 _ _ ea), fun c4 hc4 => ?_⟩
        rw [cutn0]
        have u5 := same_upd (o := .lst (vs.drop n4)) hc4
        have k5 : (upd K4 c4 (.lst (vs.drop n4))) c4 = some (.lst (vs.drop n4)) := upd_same
        generalize upd K4 c4 (.lst (vs.drop n4)) = K5 at u5 k5
        refine ⟨c3, c4, _, _, rfl, rfl, u5 _ _ k4, k5, sz (by simp only [List.length_append, List.length_take, List.length_drop, List.length_cons, List.length_nil]; omega), fun c5 hc5 => ?_⟩
        have u6 := same_upd (o := .lst (vs.take n4 ++ [sv] ++ vs.drop n4)) hc5
        have k6 : (upd K5 c5 (.lst (vs.take n4 ++ [sv] ++ vs.drop n4))) c5 = some (.lst (vs.take n4 ++ [sv] ++ vs.drop n4)) := upd_same
        generalize upd K5 c5 (.lst (vs.take n4 ++ [sv] ++ vs.drop n4)) = K6 at u6 k6
        have u16 := u14.trans (u5.trans u6)
        have u36 : Same K2 K6 := u3.trans (u4.trans (u5.trans u6))
        -- what the list holds
        have okA : okA 20 as = true := okA_all fun d hd => (hgas d hd).1
        have dxas : DxAll K K6 vs as := dpa_dx 20 as okA (dpa_same u16 _ hds)
        have dxs : DxAll K K6 (vs.take n4 ++ [sv] ++ vs.drop n4) (as.take n4 ++ [sd] ++ as.drop n4) := dxa_app (dxa_app (dxa_take n4 dxas) (.cons (dx_same u36 _ hsv) .nil)) (dxa_drop n4 dxas)
        have htl : (as.take n4).length = n4 := by rw [List.length_take]; omega
        have hat4 : (as.take n4 ++ [sd] ++ as.drop n4)[n4]? = some sd := by
          rw [List.append_assoc, List.getElem?_append_right (by omega), htl, Nat.sub_self]
          rfl
        have hbef : ∀ i d, (as.take n4 ++ [sd] ++ as.drop n4)[i]? = some d → i < n4 → GoodD d := fun i d hi hlt => by
          rw [List.append_assoc, List.getElem?_append_left (by omega)] at hi
          exact hgas d (List.mem_of_mem_take (List.mem_of_getElem? hi))
        have hll : (as.take n4 ++ [sd] ++ as.drop n4).length ≤ 2000 := by simp only [List.length_append, List.length_take, List.length_drop, List.length_cons, List.length_nil]; omega
        generalize as.take n4 ++ [sd] ++ as.drop n4 = es at dxs hat4 hbef hll
        generalize vs.take n4 ++ [sv] ++ vs.drop n4 = zs at dxs k6
        refine ⟨2, rfl, by decide, by decide, for_range (lo := 0) (n := 2) (fun i σ G4 => Same K6 G4 ∧ ∃ y11 : Option V, σ = [some (.ref a), some (.ref pd), some (.ref jl), some (.ref sl), some (.int (0 + (t : Int))), some (.ref pp), some (.int (wh : Int)), some (.ref pa), some (.bl rwb), some (.int (n4 : Int)), some (.ref c5), y11, x12]) ⟨Same.refl _, x11, rfl⟩ ?_ ?_⟩
        · rintro i σ G4 hi ⟨s4, y11, rfl⟩
          have hW4 := hW3.same (u16.trans s4)
          refine ⟨_, rfl, _, rfl, jl, _, (wh : Int), _, rfl, rfl, sql hW4.hj, at2 hw2, ?_⟩
          refine ⟨_, rfl, c5, _, rfl, .inl (sql (s4 _ _ k6)), fun cl hcl => ?_⟩
          have s5 := s4.trans (same_upd (o := .lst zs) hcl)
          refine ⟨_, rfl, p wh, l wh, cl, zs, j wh, es, n4, sd, rwb, rfl, (hW4.same (same_upd hcl)).J wh hw2, upd_same, dxa_same s5 _ dxs, hbef, hat4, hbd, hll, fun H' s' => ?_⟩
          exact ⟨true, rfl, ifbf rfl ⟨s5.trans s', _, rfl⟩⟩
        · rintro σ G4 ⟨s4, y11, rfl⟩
          exact ⟨u16.trans s4, _, _, _, rfl⟩
      rintro σ' G4 ⟨s4, y9, y10, y11, rfl⟩
      have hW4 := hW3.same s4
      have ea4 := s4 _ _ ea
      have hds4 := dpa_same s4 _ hds
      clear hW3 ea hds ep3 s4
      obtain ⟨bd1, bd2, bd3, bd4, bd5⟩ := hW4.bd wh hw2
      obtain ⟨dxw, obw⟩ := (hW4.J wh hw2).ob
      obtain ⟨vw, elw, _⟩ := (hW4.J wh hw2).rl
      have nslp : sl ≠ p wh := fun z => by have := hW4.hs; rw [z, obw] at this; cases this
      have npap : pa ≠ p wh := fun z => by rw [z, obw] at ea4; cases ea4
      refine ⟨fun σ' G' => ∃ (p l aa : Nat → Addr) (j : Nat → JS) (us : Nat → List V), W13 T.a_Journal K G' pd jl sl ds p l aa j us (t + 1) ∧ σ' = [some (.ref a), some (.ref pd), some (.ref jl), some (.ref sl), some (.int (0 + (t : Int))), some (.ref pp), some (.int (wh : Int)), some (.ref pa), some (.bl rwb), y9, y10, y11, x12], ?_, ?_⟩
      · refine ⟨_, rfl, rwb, rfl, ?_⟩
        cases rwb with
        | true =>
          have hnq : (newQ (j wh) as).length ≤ 20 := by have := parts_small ((j wh).gen + 1) (j wh).boot 0 as hrs; unfold newQ; omega
          have hrs2 : 2 ≤ rwS (j wh) as ∧ rwS (j wh) as ≤ (j wh).start + (j wh).used := by unfold rwS newSt; split <;> omega
          refine ifbt rfl ?_
          refine ⟨_, rfl, _, rfl, jl, _, (wh : Int), _, rfl, rfl, sql hW4.hj, at2 hw2, p wh, dxw, _, rfl, obw, fl_Journal_no_rewrite, _, rfl, .inl ⟨p wh, l wh, pa, vs, j wh, as, rfl, hW4.J wh hw2, ea4, hds4, hgas, by omega, by omega, by omega, bd3, by omega, by omega, fun q us' l' H' hq hl' hne fr ft hJ' eq stp => ?_⟩⟩
          have esl : H' sl = _ := fr _ _ hW4.hs (by simpa using nslp)
          have epa : H' pa = _ := fr _ _ ea4 (by simpa using npap)
          refine ⟨_, rfl, _, rfl, _, rfl, sl, _, (wh : Int), wh, rfl, rfl, esl, ix2 hw2 _ _, ?_⟩
          rw [set2 hw2]
          exact ⟨_, _, _, _, _, hW4.step hw2 (fr.mono fun y hy => by simp only [List.mem_singleton] at hy; simp [hy]) ft hJ' (.inr hl') epa (dpa_good ft hgas hds4) npa (ne_fresh ea4 hl') npas ⟨bd1, by show (j wh).gen + 1 ≤ t + 1; omega, hrs2.1, by show rwS (j wh) as + (newQ (j wh) as).length ≤ _; omega, by show as.length ≤ _; omega⟩ hrs, rfl⟩
        | false =>
          have hnp : (newP (j wh) as).length ≤ 20 := by have := parts_small (j wh).gen (j wh).boot (j wh).recs.length as hrs; unfold newP; omega
          refine ifbf rfl ?_
          refine ⟨_, rfl, _, rfl, jl, _, (wh : Int), _, rfl, rfl, sql hW4.hj, at2 hw2, p wh, dxw, _, rfl, obw, fl_Journal_no_append, _, rfl, .inl ⟨p wh, l wh, pa, vs, j wh, as, rfl, hW4.J wh hw2, ea4, npa wh hw2, hds4, hgas, by omega, by omega, by omega, by omega, fun q us' H' hq fr ft hJ' eq hst => ?_⟩⟩
          have esl : H' sl = _ := fr _ _ hW4.hs (by simp [nslp, hW4.ns wh hw2])
          have epa : H' pa = _ := fr _ _ ea4 (by simp [npap, npa wh hw2])
          have naap : aa wh ≠ p wh := fun z => by have := (hW4.S wh hw2).1; rw [z, obw] at this; cases this
          have eaa : H' (aa wh) = _ := fr _ _ (hW4.S wh hw2).1 (by simp [naap, hW4.na wh wh hw2 hw2])
          have hul := dpa_len (hW4.S wh hw2).2
          refine ⟨_, rfl, _, rfl, sl, _, (wh : Int), _, rfl, rfl, sql esl, at2 hw2, _, rfl, aa wh, pa, us wh, vs, rfl, rfl, eaa, epa, sz (by omega), fun x hx => ?_⟩
          have v1 := same_upd (o := .lst (us wh ++ vs)) hx
          refine ⟨_, rfl, _, rfl, sl, _, (wh : Int), wh, rfl, rfl, v1 _ _ esl, ix2 hw2 _ _, ?_⟩
          rw [set2 hw2]
          have gw : ∀ d ∈ (j wh).recs, GoodD d := fun d hd => (hW4.rc wh hw2 d hd).good
          obtain ⟨vw', elw', _⟩ := hJ'.rl
          have nxl : ∀ k, k < 2 → x ≠ l k := fun k hk => by
            by_cases hkw : k = wh
            · rw [hkw]; exact (ne_fresh elw' hx).symm
            · obtain ⟨vk, elk, _⟩ := (hW4.J k hk).rl
              have nlp : l k ≠ p wh := fun z => by rw [z, obw] at elk; cases elk
              exact (ne_fresh (fr _ _ elk (by simp [nlp, hW4.ll k wh hk hw2 hkw])) hx).symm
          exact ⟨_, _, _, _, _, hW4.step hw2 (fr.trans (Fr.same v1)) (ft.trans (FT.same v1)) (hJ'.same v1) (.inl rfl) upd_same (dpa_same v1 _ (dpa_app (dpa_good ft gw (hW4.S wh hw2).2) (dpa_good ft hgas hds4))) nxl (nxl wh hw2) (ne_fresh esl hx).symm ⟨bd1, by show (j wh).gen ≤ t + 1; omega, bd3, by show (j wh).start + ((j wh).used + (newP (j wh) as).length) ≤ _; omega, by show ((j wh).recs ++ as).length ≤ _; rw [List.length_append]; omega⟩ (fun d hd => (List.mem_append.mp hd).elim (hW4.rc wh hw2 d) (hrs d)), rfl⟩
      clear hW4 ea4 hds4 obw elw
      rintro σ' G5 ⟨p, l, aa, j, us, hW5, rfl⟩
      refine ⟨2, rfl, by decide, by decide, for_range (lo := 0) (n := 2) (fun i σ G6 => Same G5 G6 ∧ ∃ y12 : Option V, σ = [some (.ref a), some (.ref pd), some (.ref jl), some (.ref sl), some (.int (0 + (t : Int))), some (.ref pp), some (.int (wh : Int)), some (.ref pa), some (.bl rwb), y9, y10, y11, y12]) ⟨Same.refl _, x12, rfl⟩ ?_ ?_⟩
      · rintro i σ G6 hi ⟨s6, y12, rfl⟩
        have hi2 : i < 2 := hi
        have hW6 := hW5.same s6
        have i0 : (0 : Int) + (i : Int) = (i : Int) := by omega
        obtain ⟨dxi, obi⟩ := (hW6.J i hi2).ob
        have hsh := recs_sh (hW6.J i hi2).g
        refine ⟨_, rfl, _, rfl, jl, _, 0 + (i : Int), _, rfl, rfl, sql hW6.hj, by rw [i0]; exact at2 hi2, p i, dxi, _, rfl, obi, fl_Journal_no_records, p i, l i, j i, rfl, hW6.J i hi2, fun r vs7 G7 hr0 s7 er7 hdv => ?_⟩
        have hW7 := hW6.same s7
        refine ⟨_, rfl, _, rfl, sl, _, 0 + (i : Int), _, rfl, rfl, sql hW7.hs, by rw [i0]; exact at2 hi2, .list (j i).recs, .list (j i).recs, .lst (sql er7) hdv, .lst (sql (hW7.S i hi2).1) (hW7.S i hi2).2, hsh, hsh, _, rfl, ?_⟩
        rw [eqv_self hsh]
        exact ifbf rfl ⟨s6.trans s7, _, rfl⟩
      · rintro σ G6 ⟨s6, y12, rfl⟩
        exact ⟨p, l, aa, j, us, _, _, _, _, _, _, _, _, _, hW5.same s6, rfl⟩
    · rintro σ G ⟨p, l, aa, j, us, x4, x5, x6, x7, x8, x9, x10, x11, x12, hW, rfl⟩
      exact q G
end
theorem all_mk {l : PySem.W.OpenLaw} {w : World} {K : PySem.W.Frag} {h : Heap} {mg : Str → Option Value} {fa : Addr} (X : K.In h) (G : h.Ns mainGlobals mg) (hfa : mg "law" = some (.ref fa))
    {e_MajordomoError : Addr} {e_CodecError : Addr} {e_Truncated : Addr} {e_Malformed : Addr} {e_Damaged : Addr} {e_NotAValue : Addr} {C_Journal : Addr} {f_has_plain_characters : Addr} {od_has_plain_characters an_has_plain_characters : Option Addr} {sl_has_plain_characters : Array (Option Value)} {oc_has_plain_characters kV_has_plain_characters dc_has_plain_characters pm_has_plain_characters cd_has_plain_characters ct_has_plain_characters : Value} {f_put_number : Addr} {od_put_number an_put_number : Option Addr} {sl_put_number : Array (Option Value)} {oc_put_number kV_put_number dc_put_number pm_put_number cd_put_number ct_put_number : Value} {f_take_number : Addr} {od_take_number an_take_number : Option Addr} {sl_take_number : Array (Option Value)} {oc_take_number kV_take_number dc_take_number pm_take_number cd_take_number ct_take_number : Value} {f_is_value : Addr} {od_is_value an_is_value : Option Addr} {sl_is_value : Array (Option Value)} {oc_is_value kV_is_value dc_is_value pm_is_value cd_is_value ct_is_value : Value} {f__is_value_within : Addr} {od__is_value_within an__is_value_within : Option Addr} {sl__is_value_within : Array (Option Value)} {oc__is_value_within kV__is_value_within dc__is_value_within pm__is_value_within cd__is_value_within ct__is_value_within : Value} {f_pack : Addr} {od_pack an_pack : Option Addr} {sl_pack : Array (Option Value)} {oc_pack kV_pack dc_pack pm_pack cd_pack ct_pack : Value} {f__packed : Addr} {od__packed an__packed : Option Addr} {sl__packed : Array (Option Value)} {oc__packed kV__packed dc__packed pm__packed cd__packed ct__packed : Value} {f_unpack : Addr} {od_unpack an_unpack : Option Addr} {sl_unpack : Array (Option Value)} {oc_unpack kV_unpack dc_unpack pm_unpack cd_unpack ct_unpack : Value} {f__take_value : Addr} {od__take_value an__take_value : Option Addr} {sl__take_value : Array (Option Value)} {oc__take_value kV__take_value dc__take_value pm__take_value cd__take_value ct__take_value : Value} {f__checked_integer : Addr} {od__checked_integer an__checked_integer : Option Addr} {sl__checked_integer : Array (Option Value)} {oc__checked_integer kV__checked_integer dc__checked_integer pm__checked_integer cd__checked_integer ct__checked_integer : Value} {f__take_text : Addr} {od__take_text an__take_text : Option Addr} {sl__take_text : Array (Option Value)} {oc__take_text kV__take_text dc__take_text pm__take_text cd__take_text ct__take_text : Value} {f__take_members : Addr} {od__take_members an__take_members : Option Addr} {sl__take_members : Array (Option Value)} {oc__take_members kV__take_members dc__take_members pm__take_members cd__take_members ct__take_members : Value} {f_checksum : Addr} {od_checksum an_checksum : Option Addr} {sl_checksum : Array (Option Value)} {oc_checksum kV_checksum dc_checksum pm_checksum cd_checksum ct_checksum : Value} {dT_checksum : Addr} {do_checksum : Option Addr} {dc2_checksum : Value} {dn_checksum : Nat} {ds_checksum : Array (Option Value)} {da_checksum_0 : Addr} {tod_checksum_0 : Option Addr} {tn_checksum_0 : Nat} {ts_checksum_0 : Array (Option Value)} {tv_checksum_0 : List Value} {f_check_bytes : Addr} {od_check_bytes an_check_bytes : Option Addr} {sl_check_bytes : Array (Option Value)} {oc_check_bytes kV_check_bytes dc_check_bytes pm_check_bytes cd_check_bytes ct_check_bytes : Value} {f_make_sector : Addr} {od_make_sector an_make_sector : Option Addr} {sl_make_sector : Array (Option Value)} {oc_make_sector kV_make_sector dc_make_sector pm_make_sector cd_make_sector ct_make_sector : Value} {f_read_sector : Addr} {od_read_sector an_read_sector : Option Addr} {sl_read_sector : Array (Option Value)} {oc_read_sector kV_read_sector dc_read_sector pm_read_sector cd_read_sector ct_read_sector : Value} {f__piece_count : Addr} {od__piece_count an__piece_count : Option Addr} {sl__piece_count : Array (Option Value)} {oc__piece_count kV__piece_count dc__piece_count pm__piece_count cd__piece_count ct__piece_count : Value} {f__sector_at : Addr} {od__sector_at an__sector_at : Option Addr} {sl__sector_at : Array (Option Value)} {oc__sector_at kV__sector_at dc__sector_at pm__sector_at cd__sector_at ct__sector_at : Value} {f__newest_head : Addr} {od__newest_head an__newest_head : Option Addr} {sl__newest_head : Array (Option Value)} {oc__newest_head kV__newest_head dc__newest_head pm__newest_head cd__newest_head ct__newest_head : Value} {f__read_part : Addr} {od__read_part an__read_part : Option Addr} {sl__read_part : Array (Option Value)} {oc__read_part kV__read_part dc__read_part pm__read_part cd__read_part ct__read_part : Value} {f__read_record : Addr} {od__read_record an__read_record : Option Addr} {sl__read_record : Array (Option Value)} {oc__read_record kV__read_record dc__read_record pm__read_record cd__read_record ct__read_record : Value} {f__part_sector : Addr} {od__part_sector an__part_sector : Option Addr} {sl__part_sector : Array (Option Value)} {oc__part_sector kV__part_sector dc__part_sector pm__part_sector cd__part_sector ct__part_sector : Value} {f__part_writes : Addr} {od__part_writes an__part_writes : Option Addr} {sl__part_writes : Array (Option Value)} {oc__part_writes kV__part_writes dc__part_writes pm__part_writes cd__part_writes ct__part_writes : Value} {f_Journal___init__ : Addr} {od_Journal___init__ an_Journal___init__ : Option Addr} {sl_Journal___init__ : Array (Option Value)} {oc_Journal___init__ kV_Journal___init__ dc_Journal___init__ pm_Journal___init__ cd_Journal___init__ ct_Journal___init__ : Value} {f_Journal__read_records : Addr} {od_Journal__read_records an_Journal__read_records : Option Addr} {sl_Journal__read_records : Array (Option Value)} {oc_Journal__read_records kV_Journal__read_records dc_Journal__read_records pm_Journal__read_records cd_Journal__read_records ct_Journal__read_records : Value} {f_Journal_records : Addr} {od_Journal_records an_Journal_records : Option Addr} {sl_Journal_records : Array (Option Value)} {oc_Journal_records kV_Journal_records dc_Journal_records pm_Journal_records cd_Journal_records ct_Journal_records : Value} {f_Journal_sectors_used : Addr} {od_Journal_sectors_used an_Journal_sectors_used : Option Addr} {sl_Journal_sectors_used : Array (Option Value)} {oc_Journal_sectors_used kV_Journal_sectors_used dc_Journal_sectors_used pm_Journal_sectors_used cd_Journal_sectors_used ct_Journal_sectors_used : Value} {f_Journal_append : Addr} {od_Journal_append an_Journal_append : Option Addr} {sl_Journal_append : Array (Option Value)} {oc_Journal_append kV_Journal_append dc_Journal_append pm_Journal_append cd_Journal_append ct_Journal_append : Value} {f_Journal_rewrite : Addr} {od_Journal_rewrite an_Journal_rewrite : Option Addr} {sl_Journal_rewrite : Array (Option Value)} {oc_Journal_rewrite kV_Journal_rewrite dc_Journal_rewrite pm_Journal_rewrite cd_Journal_rewrite ct_Journal_rewrite : Value} {f__law_draws : Addr} {od__law_draws an__law_draws : Option Addr} {sl__law_draws : Array (Option Value)} {oc__law_draws kV__law_draws dc__law_draws pm__law_draws cd__law_draws ct__law_draws : Value} {f__law_record : Addr} {od__law_record an__law_record : Option Addr} {sl__law_record : Array (Option Value)} {oc__law_record kV__law_record dc__law_record pm__law_record cd__law_record ct__law_record : Value} {f__law_refused : Addr} {od__law_refused an__law_refused : Option Addr} {sl__law_refused : Array (Option Value)} {oc__law_refused kV__law_refused dc__law_refused pm__law_refused cd__law_refused ct__law_refused : Value} {f__law_strange : Addr} {od__law_strange an__law_strange : Option Addr} {sl__law_strange : Array (Option Value)} {oc__law_strange kV__law_strange dc__law_strange pm__law_strange cd__law_strange ct__law_strange : Value} {f_law : Addr} {od_law an_law : Option Addr} {sl_law : Array (Option Value)} {oc_law kV_law dc_law pm_law cd_law ct_law : Value} {t_SPACE : Tok} {t_PERCENT : Tok} {t_TILDE : Tok} {t_MOST_BYTES : Tok} {t_MOST_BITS : Tok} {t_MOST_LENGTH : Tok} {t_MOST_DEPTH : Tok} {t_FALSE_TAG : Tok} {t_TRUE_TAG : Tok} {t_NATURAL_TAG : Tok} {t_NEGATIVE_TAG : Tok} {t_TEXT_TAG : Tok} {t_TUPLE_TAG : Tok} {ca_CONSTANTS : Addr} {cd0_CONSTANTS : Option Addr} {cn_CONSTANTS : Nat} {cs_CONSTANTS : Array (Option Value)} {cv_CONSTANTS : List Value} {t_CHARACTERS : Tok} {t_PERCENT_BYTE : Tok} {t_MODULUS : Tok} {t_PAYLOAD : Tok} {ca_BLANK : Addr} {cd0_BLANK : Option Addr} {cn_BLANK : Nat} {cs_BLANK : Array (Option Value)} {cv_BLANK : List Value} {t_CHECK_BYTES : Tok} {t_MOST_KIND : Tok} {t_HEAD_KIND : Tok} {t_PART_KIND : Tok} {t_PIECE : Tok} {t_FIRST_START : Tok}
    (g_MajordomoError : PySem.W.nsIn K mainGlobals "MajordomoError" = some (some (.ref e_MajordomoError)))
    (x_MajordomoError : PySem.W.excIn K e_MajordomoError [.type "ValueError", .type "Exception", .type "BaseException", .type "object"] "ValueError.__new__" = true)
    (k_MajordomoError : PySem.W.keepIn K (.ref e_MajordomoError) = true)
    (s_MajordomoError : PySem.W.subIn K (.ref e_MajordomoError) (.type "BaseException") = some true)
    (t_MajordomoError : PySem.W.typeIn K (.ref e_MajordomoError) = some (.type "type"))
    (g_CodecError : PySem.W.nsIn K mainGlobals "CodecError" = some (some (.ref e_CodecError)))
    (x_CodecError : PySem.W.excIn K e_CodecError [.type "ValueError", .type "Exception", .type "BaseException", .type "object"] "ValueError.__new__" = true)
    (k_CodecError : PySem.W.keepIn K (.ref e_CodecError) = true)
    (s_CodecError : PySem.W.subIn K (.ref e_CodecError) (.type "BaseException") = some true)
    (t_CodecError : PySem.W.typeIn K (.ref e_CodecError) = some (.type "type"))
    (g_Truncated : PySem.W.nsIn K mainGlobals "Truncated" = some (some (.ref e_Truncated)))
    (x_Truncated : PySem.W.excIn K e_Truncated [.type "ValueError", .type "Exception", .type "BaseException", .type "object"] "ValueError.__new__" = true)
    (k_Truncated : PySem.W.keepIn K (.ref e_Truncated) = true)
    (s_Truncated : PySem.W.subIn K (.ref e_Truncated) (.type "BaseException") = some true)
    (t_Truncated : PySem.W.typeIn K (.ref e_Truncated) = some (.type "type"))
    (g_Malformed : PySem.W.nsIn K mainGlobals "Malformed" = some (some (.ref e_Malformed)))
    (x_Malformed : PySem.W.excIn K e_Malformed [.type "ValueError", .type "Exception", .type "BaseException", .type "object"] "ValueError.__new__" = true)
    (k_Malformed : PySem.W.keepIn K (.ref e_Malformed) = true)
    (s_Malformed : PySem.W.subIn K (.ref e_Malformed) (.type "BaseException") = some true)
    (t_Malformed : PySem.W.typeIn K (.ref e_Malformed) = some (.type "type"))
    (g_Damaged : PySem.W.nsIn K mainGlobals "Damaged" = some (some (.ref e_Damaged)))
    (x_Damaged : PySem.W.excIn K e_Damaged [.type "ValueError", .type "Exception", .type "BaseException", .type "object"] "ValueError.__new__" = true)
    (k_Damaged : PySem.W.keepIn K (.ref e_Damaged) = true)
    (s_Damaged : PySem.W.subIn K (.ref e_Damaged) (.type "BaseException") = some true)
    (t_Damaged : PySem.W.typeIn K (.ref e_Damaged) = some (.type "type"))
    (g_NotAValue : PySem.W.nsIn K mainGlobals "NotAValue" = some (some (.ref e_NotAValue)))
    (x_NotAValue : PySem.W.excIn K e_NotAValue [.type "ValueError", .type "Exception", .type "BaseException", .type "object"] "ValueError.__new__" = true)
    (k_NotAValue : PySem.W.keepIn K (.ref e_NotAValue) = true)
    (s_NotAValue : PySem.W.subIn K (.ref e_NotAValue) (.type "BaseException") = some true)
    (t_NotAValue : PySem.W.typeIn K (.ref e_NotAValue) = some (.type "type"))
    (hx_NotAValue : PySem.W.hasDictIn K e_NotAValue = true)
    (su_NotAValue : PySem.W.subIn K (.ref e_NotAValue) (.ref e_NotAValue) = some true)
    (Xhg_NotAValue : PySem.W.findIn K (.ref e_NotAValue) "__getattribute__" = some (some (.builtin "BaseException.__getattribute__")))
    (Xhk_NotAValue : PySem.W.findIn K (.ref e_NotAValue) "__getattr__" = some none)
    (Xhs_NotAValue : PySem.W.subIn K (.ref e_NotAValue) (.type "BaseException") = some true)
    (Xhd_NotAValue : PySem.W.hasDictIn K e_NotAValue = true)
    (Xha_NotAValue : PySem.W.findIn K (.ref e_NotAValue) "__class__" = some (some (.builtin "object.__class__")))
    (Xhn_NotAValue : PySem.W.specialIn K (.builtin "object.__class__") "__get__" = some (some (.builtin "getset_descriptor.__get__")))
    (Xht_NotAValue : PySem.W.takesIn K (.builtin "object.__class__") = some true)
    (Xhm_NotAValue : PySem.W.mroIn K e_NotAValue (.type "object") = some true)
    (y_NotAValue_Malformed : PySem.W.kitOne K (.ref e_NotAValue) (.ref e_Malformed) = some false)
    (y_NotAValue_CodecError : PySem.W.kitOne K (.ref e_NotAValue) (.ref e_CodecError) = some true)
    (g_has_plain_characters : PySem.W.nsIn K mainGlobals "has_plain_characters" = some (some (.ref f_has_plain_characters)))
    (l_has_plain_characters : K.lookup f_has_plain_characters = some ⟨oc_has_plain_characters, od_has_plain_characters, .func (PySem.W.fnOf "has_plain_characters" "has_plain_characters" (defArgs s_has_plain_characters) (defBody s_has_plain_characters) (defScope s_has_plain_characters) .none kV_has_plain_characters dc_has_plain_characters pm_has_plain_characters an_has_plain_characters cd_has_plain_characters ct_has_plain_characters), sl_has_plain_characters⟩)
    (c_has_plain_characters : PySem.W.codeIn K cd_has_plain_characters "has_plain_characters" = true)
    (k_has_plain_characters : PySem.W.keepIn K (.ref f_has_plain_characters) = true)
    (g_put_number : PySem.W.nsIn K mainGlobals "put_number" = some (some (.ref f_put_number)))
    (l_put_number : K.lookup f_put_number = some ⟨oc_put_number, od_put_number, .func (PySem.W.fnOf "put_number" "put_number" (defArgs s_put_number) (defBody s_put_number) (defScope s_put_number) .none kV_put_number dc_put_number pm_put_number an_put_number cd_put_number ct_put_number), sl_put_number⟩)
    (c_put_number : PySem.W.codeIn K cd_put_number "put_number" = true)
    (k_put_number : PySem.W.keepIn K (.ref f_put_number) = true)
    (g_take_number : PySem.W.nsIn K mainGlobals "take_number" = some (some (.ref f_take_number)))
    (l_take_number : K.lookup f_take_number = some ⟨oc_take_number, od_take_number, .func (PySem.W.fnOf "take_number" "take_number" (defArgs s_take_number) (defBody s_take_number) (defScope s_take_number) .none kV_take_number dc_take_number pm_take_number an_take_number cd_take_number ct_take_number), sl_take_number⟩)
    (c_take_number : PySem.W.codeIn K cd_take_number "take_number" = true)
    (k_take_number : PySem.W.keepIn K (.ref f_take_number) = true)
    (g_is_value : PySem.W.nsIn K mainGlobals "is_value" = some (some (.ref f_is_value)))
    (l_is_value : K.lookup f_is_value = some ⟨oc_is_value, od_is_value, .func (PySem.W.fnOf "is_value" "is_value" (defArgs s_is_value) (defBody s_is_value) (defScope s_is_value) .none kV_is_value dc_is_value pm_is_value an_is_value cd_is_value ct_is_value), sl_is_value⟩)
    (c_is_value : PySem.W.codeIn K cd_is_value "is_value" = true)
    (k_is_value : PySem.W.keepIn K (.ref f_is_value) = true)
    (g__is_value_within : PySem.W.nsIn K mainGlobals "_is_value_within" = some (some (.ref f__is_value_within)))
    (l__is_value_within : K.lookup f__is_value_within = some ⟨oc__is_value_within, od__is_value_within, .func (PySem.W.fnOf "_is_value_within" "_is_value_within" (defArgs s__is_value_within) (defBody s__is_value_within) (defScope s__is_value_within) .none kV__is_value_within dc__is_value_within pm__is_value_within an__is_value_within cd__is_value_within ct__is_value_within), sl__is_value_within⟩)
    (c__is_value_within : PySem.W.codeIn K cd__is_value_within "_is_value_within" = true)
    (k__is_value_within : PySem.W.keepIn K (.ref f__is_value_within) = true)
    (g_pack : PySem.W.nsIn K mainGlobals "pack" = some (some (.ref f_pack)))
    (l_pack : K.lookup f_pack = some ⟨oc_pack, od_pack, .func (PySem.W.fnOf "pack" "pack" (defArgs s_pack) (defBody s_pack) (defScope s_pack) .none kV_pack dc_pack pm_pack an_pack cd_pack ct_pack), sl_pack⟩)
    (c_pack : PySem.W.codeIn K cd_pack "pack" = true)
    (k_pack : PySem.W.keepIn K (.ref f_pack) = true)
    (g__packed : PySem.W.nsIn K mainGlobals "_packed" = some (some (.ref f__packed)))
    (l__packed : K.lookup f__packed = some ⟨oc__packed, od__packed, .func (PySem.W.fnOf "_packed" "_packed" (defArgs s__packed) (defBody s__packed) (defScope s__packed) .none kV__packed dc__packed pm__packed an__packed cd__packed ct__packed), sl__packed⟩)
    (c__packed : PySem.W.codeIn K cd__packed "_packed" = true)
    (k__packed : PySem.W.keepIn K (.ref f__packed) = true)
    (g_unpack : PySem.W.nsIn K mainGlobals "unpack" = some (some (.ref f_unpack)))
    (l_unpack : K.lookup f_unpack = some ⟨oc_unpack, od_unpack, .func (PySem.W.fnOf "unpack" "unpack" (defArgs s_unpack) (defBody s_unpack) (defScope s_unpack) .none kV_unpack dc_unpack pm_unpack an_unpack cd_unpack ct_unpack), sl_unpack⟩)
    (c_unpack : PySem.W.codeIn K cd_unpack "unpack" = true)
    (k_unpack : PySem.W.keepIn K (.ref f_unpack) = true)
    (g__take_value : PySem.W.nsIn K mainGlobals "_take_value" = some (some (.ref f__take_value)))
    (l__take_value : K.lookup f__take_value = some ⟨oc__take_value, od__take_value, .func (PySem.W.fnOf "_take_value" "_take_value" (defArgs s__take_value) (defBody s__take_value) (defScope s__take_value) .none kV__take_value dc__take_value pm__take_value an__take_value cd__take_value ct__take_value), sl__take_value⟩)
    (c__take_value : PySem.W.codeIn K cd__take_value "_take_value" = true)
    (k__take_value : PySem.W.keepIn K (.ref f__take_value) = true)
    (g__checked_integer : PySem.W.nsIn K mainGlobals "_checked_integer" = some (some (.ref f__checked_integer)))
    (l__checked_integer : K.lookup f__checked_integer = some ⟨oc__checked_integer, od__checked_integer, .func (PySem.W.fnOf "_checked_integer" "_checked_integer" (defArgs s__checked_integer) (defBody s__checked_integer) (defScope s__checked_integer) .none kV__checked_integer dc__checked_integer pm__checked_integer an__checked_integer cd__checked_integer ct__checked_integer), sl__checked_integer⟩)
    (c__checked_integer : PySem.W.codeIn K cd__checked_integer "_checked_integer" = true)
    (k__checked_integer : PySem.W.keepIn K (.ref f__checked_integer) = true)
    (g__take_text : PySem.W.nsIn K mainGlobals "_take_text" = some (some (.ref f__take_text)))
    (l__take_text : K.lookup f__take_text = some ⟨oc__take_text, od__take_text, .func (PySem.W.fnOf "_take_text" "_take_text" (defArgs s__take_text) (defBody s__take_text) (defScope s__take_text) .none kV__take_text dc__take_text pm__take_text an__take_text cd__take_text ct__take_text), sl__take_text⟩)
    (c__take_text : PySem.W.codeIn K cd__take_text "_take_text" = true)
    (k__take_text : PySem.W.keepIn K (.ref f__take_text) = true)
    (g__take_members : PySem.W.nsIn K mainGlobals "_take_members" = some (some (.ref f__take_members)))
    (l__take_members : K.lookup f__take_members = some ⟨oc__take_members, od__take_members, .func (PySem.W.fnOf "_take_members" "_take_members" (defArgs s__take_members) (defBody s__take_members) (defScope s__take_members) .none kV__take_members dc__take_members pm__take_members an__take_members cd__take_members ct__take_members), sl__take_members⟩)
    (c__take_members : PySem.W.codeIn K cd__take_members "_take_members" = true)
    (k__take_members : PySem.W.keepIn K (.ref f__take_members) = true)
    (g_checksum : PySem.W.nsIn K mainGlobals "checksum" = some (some (.ref f_checksum)))
    (l_checksum : K.lookup f_checksum = some ⟨oc_checksum, od_checksum, .func (PySem.W.fnOf "checksum" "checksum" (defArgs s_checksum) (defBody s_checksum) (defScope s_checksum) (.ref dT_checksum) kV_checksum dc_checksum pm_checksum an_checksum cd_checksum ct_checksum), sl_checksum⟩)
    (c_checksum : PySem.W.codeIn K cd_checksum "checksum" = true)
    (k_checksum : PySem.W.keepIn K (.ref f_checksum) = true)
    (lT_checksum : K.lookup dT_checksum = some ⟨dc2_checksum, do_checksum, .seq (([.ref da_checksum_0] : List Value).toArray) dn_checksum, ds_checksum⟩)
    (lq_checksum_0 : K.lookup da_checksum_0 = some ⟨.type "tuple", tod_checksum_0, .seq tv_checksum_0.toArray tn_checksum_0, ts_checksum_0⟩)
    (v_checksum_0 : Vals [(.int 1), (.int 1)] tv_checksum_0)
    (g_check_bytes : PySem.W.nsIn K mainGlobals "check_bytes" = some (some (.ref f_check_bytes)))
    (l_check_bytes : K.lookup f_check_bytes = some ⟨oc_check_bytes, od_check_bytes, .func (PySem.W.fnOf "check_bytes" "check_bytes" (defArgs s_check_bytes) (defBody s_check_bytes) (defScope s_check_bytes) .none kV_check_bytes dc_check_bytes pm_check_bytes an_check_bytes cd_check_bytes ct_check_bytes), sl_check_bytes⟩)
    (c_check_bytes : PySem.W.codeIn K cd_check_bytes "check_bytes" = true)
    (k_check_bytes : PySem.W.keepIn K (.ref f_check_bytes) = true)
    (g_make_sector : PySem.W.nsIn K mainGlobals "make_sector" = some (some (.ref f_make_sector)))
    (l_make_sector : K.lookup f_make_sector = some ⟨oc_make_sector, od_make_sector, .func (PySem.W.fnOf "make_sector" "make_sector" (defArgs s_make_sector) (defBody s_make_sector) (defScope s_make_sector) .none kV_make_sector dc_make_sector pm_make_sector an_make_sector cd_make_sector ct_make_sector), sl_make_sector⟩)
    (c_make_sector : PySem.W.codeIn K cd_make_sector "make_sector" = true)
    (k_make_sector : PySem.W.keepIn K (.ref f_make_sector) = true)
    (g_read_sector : PySem.W.nsIn K mainGlobals "read_sector" = some (some (.ref f_read_sector)))
    (l_read_sector : K.lookup f_read_sector = some ⟨oc_read_sector, od_read_sector, .func (PySem.W.fnOf "read_sector" "read_sector" (defArgs s_read_sector) (defBody s_read_sector) (defScope s_read_sector) .none kV_read_sector dc_read_sector pm_read_sector an_read_sector cd_read_sector ct_read_sector), sl_read_sector⟩)
    (c_read_sector : PySem.W.codeIn K cd_read_sector "read_sector" = true)
    (k_read_sector : PySem.W.keepIn K (.ref f_read_sector) = true)
    (g__piece_count : PySem.W.nsIn K mainGlobals "_piece_count" = some (some (.ref f__piece_count)))
    (l__piece_count : K.lookup f__piece_count = some ⟨oc__piece_count, od__piece_count, .func (PySem.W.fnOf "_piece_count" "_piece_count" (defArgs s__piece_count) (defBody s__piece_count) (defScope s__piece_count) .none kV__piece_count dc__piece_count pm__piece_count an__piece_count cd__piece_count ct__piece_count), sl__piece_count⟩)
    (c__piece_count : PySem.W.codeIn K cd__piece_count "_piece_count" = true)
    (k__piece_count : PySem.W.keepIn K (.ref f__piece_count) = true)
    (g__sector_at : PySem.W.nsIn K mainGlobals "_sector_at" = some (some (.ref f__sector_at)))
    (l__sector_at : K.lookup f__sector_at = some ⟨oc__sector_at, od__sector_at, .func (PySem.W.fnOf "_sector_at" "_sector_at" (defArgs s__sector_at) (defBody s__sector_at) (defScope s__sector_at) .none kV__sector_at dc__sector_at pm__sector_at an__sector_at cd__sector_at ct__sector_at), sl__sector_at⟩)
    (c__sector_at : PySem.W.codeIn K cd__sector_at "_sector_at" = true)
    (k__sector_at : PySem.W.keepIn K (.ref f__sector_at) = true)
    (g__newest_head : PySem.W.nsIn K mainGlobals "_newest_head" = some (some (.ref f__newest_head)))
    (l__newest_head : K.lookup f__newest_head = some ⟨oc__newest_head, od__newest_head, .func (PySem.W.fnOf "_newest_head" "_newest_head" (defArgs s__newest_head) (defBody s__newest_head) (defScope s__newest_head) .none kV__newest_head dc__newest_head pm__newest_head an__newest_head cd__newest_head ct__newest_head), sl__newest_head⟩)
    (c__newest_head : PySem.W.codeIn K cd__newest_head "_newest_head" = true)
    (k__newest_head : PySem.W.keepIn K (.ref f__newest_head) = true)
    (g__read_part : PySem.W.nsIn K mainGlobals "_read_part" = some (some (.ref f__read_part)))
    (l__read_part : K.lookup f__read_part = some ⟨oc__read_part, od__read_part, .func (PySem.W.fnOf "_read_part" "_read_part" (defArgs s__read_part) (defBody s__read_part) (defScope s__read_part) .none kV__read_part dc__read_part pm__read_part an__read_part cd__read_part ct__read_part), sl__read_part⟩)
    (c__read_part : PySem.W.codeIn K cd__read_part "_read_part" = true)
    (k__read_part : PySem.W.keepIn K (.ref f__read_part) = true)
    (g__read_record : PySem.W.nsIn K mainGlobals "_read_record" = some (some (.ref f__read_record)))
    (l__read_record : K.lookup f__read_record = some ⟨oc__read_record, od__read_record, .func (PySem.W.fnOf "_read_record" "_read_record" (defArgs s__read_record) (defBody s__read_record) (defScope s__read_record) .none kV__read_record dc__read_record pm__read_record an__read_record cd__read_record ct__read_record), sl__read_record⟩)
    (c__read_record : PySem.W.codeIn K cd__read_record "_read_record" = true)
    (k__read_record : PySem.W.keepIn K (.ref f__read_record) = true)
    (g__part_sector : PySem.W.nsIn K mainGlobals "_part_sector" = some (some (.ref f__part_sector)))
    (l__part_sector : K.lookup f__part_sector = some ⟨oc__part_sector, od__part_sector, .func (PySem.W.fnOf "_part_sector" "_part_sector" (defArgs s__part_sector) (defBody s__part_sector) (defScope s__part_sector) .none kV__part_sector dc__part_sector pm__part_sector an__part_sector cd__part_sector ct__part_sector), sl__part_sector⟩)
    (c__part_sector : PySem.W.codeIn K cd__part_sector "_part_sector" = true)
    (k__part_sector : PySem.W.keepIn K (.ref f__part_sector) = true)
    (g__part_writes : PySem.W.nsIn K mainGlobals "_part_writes" = some (some (.ref f__part_writes)))
    (l__part_writes : K.lookup f__part_writes = some ⟨oc__part_writes, od__part_writes, .func (PySem.W.fnOf "_part_writes" "_part_writes" (defArgs s__part_writes) (defBody s__part_writes) (defScope s__part_writes) .none kV__part_writes dc__part_writes pm__part_writes an__part_writes cd__part_writes ct__part_writes), sl__part_writes⟩)
    (c__part_writes : PySem.W.codeIn K cd__part_writes "_part_writes" = true)
    (k__part_writes : PySem.W.keepIn K (.ref f__part_writes) = true)
    (gc_Journal : PySem.W.nsIn K mainGlobals "Journal" = some (some (.ref C_Journal)))
    (m_Journal___init__ : PySem.W.findIn K (.ref C_Journal) "__init__" = some (some (.ref f_Journal___init__)))
    (i_Journal___init__ : PySem.W.isFn K (.ref f_Journal___init__) = true)
    (l_Journal___init__ : K.lookup f_Journal___init__ = some ⟨oc_Journal___init__, od_Journal___init__, .func (PySem.W.fnOf "__init__" "Journal.__init__" (defArgs s_Journal___init__) (defBody s_Journal___init__) (defScope s_Journal___init__) .none kV_Journal___init__ dc_Journal___init__ pm_Journal___init__ an_Journal___init__ cd_Journal___init__ ct_Journal___init__), sl_Journal___init__⟩)
    (c_Journal___init__ : PySem.W.codeIn K cd_Journal___init__ "Journal.__init__" = true)
    (k_Journal___init__ : PySem.W.keepIn K (.ref f_Journal___init__) = true)
    (m_Journal__read_records : PySem.W.findIn K (.ref C_Journal) "_read_records" = some (some (.ref f_Journal__read_records)))
    (i_Journal__read_records : PySem.W.isFn K (.ref f_Journal__read_records) = true)
    (l_Journal__read_records : K.lookup f_Journal__read_records = some ⟨oc_Journal__read_records, od_Journal__read_records, .func (PySem.W.fnOf "_read_records" "Journal._read_records" (defArgs s_Journal__read_records) (defBody s_Journal__read_records) (defScope s_Journal__read_records) .none kV_Journal__read_records dc_Journal__read_records pm_Journal__read_records an_Journal__read_records cd_Journal__read_records ct_Journal__read_records), sl_Journal__read_records⟩)
    (c_Journal__read_records : PySem.W.codeIn K cd_Journal__read_records "Journal._read_records" = true)
    (k_Journal__read_records : PySem.W.keepIn K (.ref f_Journal__read_records) = true)
    (m_Journal_records : PySem.W.findIn K (.ref C_Journal) "records" = some (some (.ref f_Journal_records)))
    (i_Journal_records : PySem.W.isFn K (.ref f_Journal_records) = true)
    (l_Journal_records : K.lookup f_Journal_records = some ⟨oc_Journal_records, od_Journal_records, .func (PySem.W.fnOf "records" "Journal.records" (defArgs s_Journal_records) (defBody s_Journal_records) (defScope s_Journal_records) .none kV_Journal_records dc_Journal_records pm_Journal_records an_Journal_records cd_Journal_records ct_Journal_records), sl_Journal_records⟩)
    (c_Journal_records : PySem.W.codeIn K cd_Journal_records "Journal.records" = true)
    (k_Journal_records : PySem.W.keepIn K (.ref f_Journal_records) = true)
    (m_Journal_sectors_used : PySem.W.findIn K (.ref C_Journal) "sectors_used" = some (some (.ref f_Journal_sectors_used)))
    (i_Journal_sectors_used : PySem.W.isFn K (.ref f_Journal_sectors_used) = true)
    (l_Journal_sectors_used : K.lookup f_Journal_sectors_used = some ⟨oc_Journal_sectors_used, od_Journal_sectors_used, .func (PySem.W.fnOf "sectors_used" "Journal.sectors_used" (defArgs s_Journal_sectors_used) (defBody s_Journal_sectors_used) (defScope s_Journal_sectors_used) .none kV_Journal_sectors_used dc_Journal_sectors_used pm_Journal_sectors_used an_Journal_sectors_used cd_Journal_sectors_used ct_Journal_sectors_used), sl_Journal_sectors_used⟩)
    (c_Journal_sectors_used : PySem.W.codeIn K cd_Journal_sectors_used "Journal.sectors_used" = true)
    (k_Journal_sectors_used : PySem.W.keepIn K (.ref f_Journal_sectors_used) = true)
    (m_Journal_append : PySem.W.findIn K (.ref C_Journal) "append" = some (some (.ref f_Journal_append)))
    (i_Journal_append : PySem.W.isFn K (.ref f_Journal_append) = true)
    (l_Journal_append : K.lookup f_Journal_append = some ⟨oc_Journal_append, od_Journal_append, .func (PySem.W.fnOf "append" "Journal.append" (defArgs s_Journal_append) (defBody s_Journal_append) (defScope s_Journal_append) .none kV_Journal_append dc_Journal_append pm_Journal_append an_Journal_append cd_Journal_append ct_Journal_append), sl_Journal_append⟩)
    (c_Journal_append : PySem.W.codeIn K cd_Journal_append "Journal.append" = true)
    (k_Journal_append : PySem.W.keepIn K (.ref f_Journal_append) = true)
    (m_Journal_rewrite : PySem.W.findIn K (.ref C_Journal) "rewrite" = some (some (.ref f_Journal_rewrite)))
    (i_Journal_rewrite : PySem.W.isFn K (.ref f_Journal_rewrite) = true)
    (l_Journal_rewrite : K.lookup f_Journal_rewrite = some ⟨oc_Journal_rewrite, od_Journal_rewrite, .func (PySem.W.fnOf "rewrite" "Journal.rewrite" (defArgs s_Journal_rewrite) (defBody s_Journal_rewrite) (defScope s_Journal_rewrite) .none kV_Journal_rewrite dc_Journal_rewrite pm_Journal_rewrite an_Journal_rewrite cd_Journal_rewrite ct_Journal_rewrite), sl_Journal_rewrite⟩)
    (c_Journal_rewrite : PySem.W.codeIn K cd_Journal_rewrite "Journal.rewrite" = true)
    (k_Journal_rewrite : PySem.W.keepIn K (.ref f_Journal_rewrite) = true)
    (g__law_draws : PySem.W.nsIn K mainGlobals "_law_draws" = some (some (.ref f__law_draws)))
    (l__law_draws : K.lookup f__law_draws = some ⟨oc__law_draws, od__law_draws, .func (PySem.W.fnOf "_law_draws" "_law_draws" (defArgs s__law_draws) (defBody s__law_draws) (defScope s__law_draws) .none kV__law_draws dc__law_draws pm__law_draws an__law_draws cd__law_draws ct__law_draws), sl__law_draws⟩)
    (c__law_draws : PySem.W.codeIn K cd__law_draws "_law_draws" = true)
    (k__law_draws : PySem.W.keepIn K (.ref f__law_draws) = true)
    (g__law_record : PySem.W.nsIn K mainGlobals "_law_record" = some (some (.ref f__law_record)))
    (l__law_record : K.lookup f__law_record = some ⟨oc__law_record, od__law_record, .func (PySem.W.fnOf "_law_record" "_law_record" (defArgs s__law_record) (defBody s__law_record) (defScope s__law_record) .none kV__law_record dc__law_record pm__law_record an__law_record cd__law_record ct__law_record), sl__law_record⟩)
    (c__law_record : PySem.W.codeIn K cd__law_record "_law_record" = true)
    (k__law_record : PySem.W.keepIn K (.ref f__law_record) = true)
    (g__law_refused : PySem.W.nsIn K mainGlobals "_law_refused" = some (some (.ref f__law_refused)))
    (l__law_refused : K.lookup f__law_refused = some ⟨oc__law_refused, od__law_refused, .func (PySem.W.fnOf "_law_refused" "_law_refused" (defArgs s__law_refused) (defBody s__law_refused) (defScope s__law_refused) .none kV__law_refused dc__law_refused pm__law_refused an__law_refused cd__law_refused ct__law_refused), sl__law_refused⟩)
    (c__law_refused : PySem.W.codeIn K cd__law_refused "_law_refused" = true)
    (k__law_refused : PySem.W.keepIn K (.ref f__law_refused) = true)
    (g__law_strange : PySem.W.nsIn K mainGlobals "_law_strange" = some (some (.ref f__law_strange)))
    (l__law_strange : K.lookup f__law_strange = some ⟨oc__law_strange, od__law_strange, .func (PySem.W.fnOf "_law_strange" "_law_strange" (defArgs s__law_strange) (defBody s__law_strange) (defScope s__law_strange) .none kV__law_strange dc__law_strange pm__law_strange an__law_strange cd__law_strange ct__law_strange), sl__law_strange⟩)
    (c__law_strange : PySem.W.codeIn K cd__law_strange "_law_strange" = true)
    (k__law_strange : PySem.W.keepIn K (.ref f__law_strange) = true)
    (g_law : PySem.W.nsIn K mainGlobals "law" = some (some (.ref f_law)))
    (l_law : K.lookup f_law = some ⟨oc_law, od_law, .func (PySem.W.fnOf "law" "law" (defArgs s_law) (defBody s_law) (defScope s_law) .none kV_law dc_law pm_law an_law cd_law ct_law), sl_law⟩)
    (c_law : PySem.W.codeIn K cd_law "law" = true)
    (k_law : PySem.W.keepIn K (.ref f_law) = true)
    (pg_Journal : PySem.W.plainGet K C_Journal Str.empty = true)
    (hd_Journal : PySem.W.hasDictIn K C_Journal = true)
    (po_Journal : PySem.W.plainOver K C_Journal = true)
    (sa_Journal : PySem.W.findIn K (.ref C_Journal) "__setattr__" = some (some (.builtin "object.__setattr__")))
    (mk_Journal : PySem.W.makesIn K C_Journal = true)
    (kc_Journal : PySem.W.keepIn K (.ref C_Journal) = true)
    (na_Journal__boot : PySem.W.findIn K (.ref C_Journal) "_boot" = some none)
    (na_Journal__generation : PySem.W.findIn K (.ref C_Journal) "_generation" = some none)
    (na_Journal__start : PySem.W.findIn K (.ref C_Journal) "_start" = some none)
    (na_Journal__used : PySem.W.findIn K (.ref C_Journal) "_used" = some none)
    (na_Journal__records : PySem.W.findIn K (.ref C_Journal) "_records" = some none)
    (c_SPACE : PySem.W.nsIn K mainGlobals "SPACE" = some (some (.int 32 t_SPACE)))
    (c_PERCENT : PySem.W.nsIn K mainGlobals "PERCENT" = some (some (.int 37 t_PERCENT)))
    (c_TILDE : PySem.W.nsIn K mainGlobals "TILDE" = some (some (.int 126 t_TILDE)))
    (c_MOST_BYTES : PySem.W.nsIn K mainGlobals "MOST_BYTES" = some (some (.int 500 t_MOST_BYTES)))
    (c_MOST_BITS : PySem.W.nsIn K mainGlobals "MOST_BITS" = some (some (.int 3000 t_MOST_BITS)))
    (c_MOST_LENGTH : PySem.W.nsIn K mainGlobals "MOST_LENGTH" = some (some (.int 60000 t_MOST_LENGTH)))
    (c_MOST_DEPTH : PySem.W.nsIn K mainGlobals "MOST_DEPTH" = some (some (.int 20 t_MOST_DEPTH)))
    (c_FALSE_TAG : PySem.W.nsIn K mainGlobals "FALSE_TAG" = some (some (.int 1 t_FALSE_TAG)))
    (c_TRUE_TAG : PySem.W.nsIn K mainGlobals "TRUE_TAG" = some (some (.int 2 t_TRUE_TAG)))
    (c_NATURAL_TAG : PySem.W.nsIn K mainGlobals "NATURAL_TAG" = some (some (.int 3 t_NATURAL_TAG)))
    (c_NEGATIVE_TAG : PySem.W.nsIn K mainGlobals "NEGATIVE_TAG" = some (some (.int 4 t_NEGATIVE_TAG)))
    (c_TEXT_TAG : PySem.W.nsIn K mainGlobals "TEXT_TAG" = some (some (.int 5 t_TEXT_TAG)))
    (c_TUPLE_TAG : PySem.W.nsIn K mainGlobals "TUPLE_TAG" = some (some (.int 6 t_TUPLE_TAG)))
    (c_CONSTANTS : PySem.W.nsIn K mainGlobals "CONSTANTS" = some (some (.ref ca_CONSTANTS)))
    (q_CONSTANTS : K.lookup ca_CONSTANTS = some ⟨.type "tuple", cd0_CONSTANTS, .seq cv_CONSTANTS.toArray cn_CONSTANTS, cs_CONSTANTS⟩)
    (v_CONSTANTS : Vals [.non, (.bl false), (.bl true)] cv_CONSTANTS)
    (c_CHARACTERS : PySem.W.nsIn K mainGlobals "CHARACTERS" = some (some (.str " !\"#$ &'()*+,-./0123456789:;<=>?@ABCDEFGHIJKLMNOPQRSTUVWXYZ[\\]^_`abcdefghijklmnopqrstuvwxyz{|}~" t_CHARACTERS)))
    (c_PERCENT_BYTE : PySem.W.nsIn K mainGlobals "PERCENT_BYTE" = some (some (.int 5 t_PERCENT_BYTE)))
    (c_MODULUS : PySem.W.nsIn K mainGlobals "MODULUS" = some (some (.int 65521 t_MODULUS)))
    (c_PAYLOAD : PySem.W.nsIn K mainGlobals "PAYLOAD" = some (some (.int 58 t_PAYLOAD)))
    (c_BLANK : PySem.W.nsIn K mainGlobals "BLANK" = some (some (.ref ca_BLANK)))
    (q_BLANK : K.lookup ca_BLANK = some ⟨.type "tuple", cd0_BLANK, .seq cv_BLANK.toArray cn_BLANK, cs_BLANK⟩)
    (v_BLANK : Vals [(.int 0), (.int 0), (.int 0), (.int 0), (.int 0), (.int 0), (.int 0), (.int 0), (.int 0), (.int 0), (.int 0), (.int 0), (.int 0), (.int 0), (.int 0), (.int 0), (.int 0), (.int 0), (.int 0), (.int 0), (.int 0), (.int 0), (.int 0), (.int 0), (.int 0), (.int 0), (.int 0), (.int 0), (.int 0), (.int 0), (.int 0), (.int 0), (.int 0), (.int 0), (.int 0), (.int 0), (.int 0), (.int 0), (.int 0), (.int 0), (.int 0), (.int 0), (.int 0), (.int 0), (.int 0), (.int 0), (.int 0), (.int 0), (.int 0), (.int 0), (.int 0), (.int 0), (.int 0), (.int 0), (.int 0), (.int 0), (.int 0), (.int 0), (.int 0), (.int 0), (.int 0), (.int 0), (.int 0), (.int 0)] cv_BLANK)
    (c_CHECK_BYTES : PySem.W.nsIn K mainGlobals "CHECK_BYTES" = some (some (.int 4 t_CHECK_BYTES)))
    (c_MOST_KIND : PySem.W.nsIn K mainGlobals "MOST_KIND" = some (some (.int 9 t_MOST_KIND)))
    (c_HEAD_KIND : PySem.W.nsIn K mainGlobals "HEAD_KIND" = some (some (.int 1 t_HEAD_KIND)))
    (c_PART_KIND : PySem.W.nsIn K mainGlobals "PART_KIND" = some (some (.int 2 t_PART_KIND)))
    (c_PIECE : PySem.W.nsIn K mainGlobals "PIECE" = some (some (.int 40 t_PIECE)))
    (c_FIRST_START : PySem.W.nsIn K mainGlobals "FIRST_START" = some (some (.int 2 t_FIRST_START)))
    (n_range : PySem.W.nsIn K mainGlobals "range" = some none)
    (n_min : PySem.W.nsIn K mainGlobals "min" = some none)
    (n_len : PySem.W.nsIn K mainGlobals "len" = some none)
    (n_ord : PySem.W.nsIn K mainGlobals "ord" = some none)
    (n_isinstance : PySem.W.nsIn K mainGlobals "isinstance" = some none)
    (n_bool : PySem.W.nsIn K mainGlobals "bool" = some none)
    (n_int : PySem.W.nsIn K mainGlobals "int" = some none)
    (n_str : PySem.W.nsIn K mainGlobals "str" = some none)
    (n_tuple : PySem.W.nsIn K mainGlobals "tuple" = some none)
    (n_abs : PySem.W.nsIn K mainGlobals "abs" = some none)
    (n_list : PySem.W.nsIn K mainGlobals "list" = some none)
    (n_sum : PySem.W.nsIn K mainGlobals "sum" = some none) :
    ∃ fd : FuncData, (∀ (s : Shared) (v : Value), BindsTo s fd ⟨[v], []⟩ [("script", v)]) ∧ ∀ base : Heap, K.In base → base.Ns mainGlobals mg → FnOk l.prog w K mg base CX0 48 fa fd ["script"] (sp_law K) := by
  have e : fa = f_law := by
    have z := hfa.symm.trans (PySem.W.mg_of X G g_law)
    injection z with z
    injection z
  rw [e]
  let T : TX K mg := ⟨e_MajordomoError, (PySem.W.mg_of X G g_MajordomoError), x_MajordomoError, k_MajordomoError, s_MajordomoError, t_MajordomoError, e_CodecError, (PySem.W.mg_of X G g_CodecError), x_CodecError, k_CodecError, s_CodecError, t_CodecError, e_Truncated, (PySem.W.mg_of X G g_Truncated), x_Truncated, k_Truncated, s_Truncated, t_Truncated, e_Malformed, (PySem.W.mg_of X G g_Malformed), x_Malformed, k_Malformed, s_Malformed, t_Malformed, e_Damaged, (PySem.W.mg_of X G g_Damaged), x_Damaged, k_Damaged, s_Damaged, t_Damaged, e_NotAValue, (PySem.W.mg_of X G g_NotAValue), x_NotAValue, k_NotAValue, s_NotAValue, t_NotAValue, (PySem.W.exm_ref s_NotAValue hx_NotAValue t_NotAValue su_NotAValue), C_Journal, ⟨Xhg_NotAValue, Xhk_NotAValue, Xhs_NotAValue, Xhd_NotAValue, Xha_NotAValue, Xhn_NotAValue, Xht_NotAValue, Xhm_NotAValue⟩, y_NotAValue_Malformed, y_NotAValue_CodecError, f_has_plain_characters, (PySem.W.fnOf "has_plain_characters" "has_plain_characters" (defArgs s_has_plain_characters) (defBody s_has_plain_characters) (defScope s_has_plain_characters) .none kV_has_plain_characters dc_has_plain_characters pm_has_plain_characters an_has_plain_characters cd_has_plain_characters ct_has_plain_characters), (fun_mk (st := s_has_plain_characters) l_has_plain_characters c_has_plain_characters k_has_plain_characters), ((fun_mk (st := s_has_plain_characters) l_has_plain_characters c_has_plain_characters k_has_plain_characters).binds (ps := ["text"]) fun _ _ _ _ _ _ us hl => match us, hl with | [_], _ => rfl), (PySem.W.mg_of X G g_has_plain_characters), f_put_number, (PySem.W.fnOf "put_number" "put_number" (defArgs s_put_number) (defBody s_put_number) (defScope s_put_number) .none kV_put_number dc_put_number pm_put_number an_put_number cd_put_number ct_put_number), (fun_mk (st := s_put_number) l_put_number c_put_number k_put_number), ((fun_mk (st := s_put_number) l_put_number c_put_number k_put_number).binds (ps := ["number"]) fun _ _ _ _ _ _ us hl => match us, hl with | [_], _ => rfl), (PySem.W.mg_of X G g_put_number), f_take_number, (PySem.W.fnOf "take_number" "take_number" (defArgs s_take_number) (defBody s_take_number) (defScope s_take_number) .none kV_take_number dc_take_number pm_take_number an_take_number cd_take_number ct_take_number), (fun_mk (st := s_take_number) l_take_number c_take_number k_take_number), ((fun_mk (st := s_take_number) l_take_number c_take_number k_take_number).binds (ps := ["row", "index"]) fun _ _ _ _ _ _ us hl => match us, hl with | [_, _], _ => rfl), (PySem.W.mg_of X G g_take_number), f_is_value, (PySem.W.fnOf "is_value" "is_value" (defArgs s_is_value) (defBody s_is_value) (defScope s_is_value) .none kV_is_value dc_is_value pm_is_value an_is_value cd_is_value ct_is_value), (fun_mk (st := s_is_value) l_is_value c_is_value k_is_value), ((fun_mk (st := s_is_value) l_is_value c_is_value k_is_value).binds (ps := ["value"]) fun _ _ _ _ _ _ us hl => match us, hl with | [_], _ => rfl), (PySem.W.mg_of X G g_is_value), f__is_value_within, (PySem.W.fnOf "_is_value_within" "_is_value_within" (defArgs s__is_value_within) (defBody s__is_value_within) (defScope s__is_value_within) .none kV__is_value_within dc__is_value_within pm__is_value_within an__is_value_within cd__is_value_within ct__is_value_within), (fun_mk (st := s__is_value_within) l__is_value_within c__is_value_within k__is_value_within), ((fun_mk (st := s__is_value_within) l__is_value_within c__is_value_within k__is_value_within).binds (ps := ["value", "depth"]) fun _ _ _ _ _ _ us hl => match us, hl with | [_, _], _ => rfl), (PySem.W.mg_of X G g__is_value_within), f_pack, (PySem.W.fnOf "pack" "pack" (defArgs s_pack) (defBody s_pack) (defScope s_pack) .none kV_pack dc_pack pm_pack an_pack cd_pack ct_pack), (fun_mk (st := s_pack) l_pack c_pack k_pack), ((fun_mk (st := s_pack) l_pack c_pack k_pack).binds (ps := ["value"]) fun _ _ _ _ _ _ us hl => match us, hl with | [_], _ => rfl), (PySem.W.mg_of X G g_pack), f__packed, (PySem.W.fnOf "_packed" "_packed" (defArgs s__packed) (defBody s__packed) (defScope s__packed) .none kV__packed dc__packed pm__packed an__packed cd__packed ct__packed), (fun_mk (st := s__packed) l__packed c__packed k__packed), ((fun_mk (st := s__packed) l__packed c__packed k__packed).binds (ps := ["value"]) fun _ _ _ _ _ _ us hl => match us, hl with | [_], _ => rfl), (PySem.W.mg_of X G g__packed), f_unpack, (PySem.W.fnOf "unpack" "unpack" (defArgs s_unpack) (defBody s_unpack) (defScope s_unpack) .none kV_unpack dc_unpack pm_unpack an_unpack cd_unpack ct_unpack), (fun_mk (st := s_unpack) l_unpack c_unpack k_unpack), ((fun_mk (st := s_unpack) l_unpack c_unpack k_unpack).binds (ps := ["row"]) fun _ _ _ _ _ _ us hl => match us, hl with | [_], _ => rfl), (PySem.W.mg_of X G g_unpack), f__take_value, (PySem.W.fnOf "_take_value" "_take_value" (defArgs s__take_value) (defBody s__take_value) (defScope s__take_value) .none kV__take_value dc__take_value pm__take_value an__take_value cd__take_value ct__take_value), (fun_mk (st := s__take_value) l__take_value c__take_value k__take_value), ((fun_mk (st := s__take_value) l__take_value c__take_value k__take_value).binds (ps := ["row", "index", "depth"]) fun _ _ _ _ _ _ us hl => match us, hl with | [_, _, _], _ => rfl), (PySem.W.mg_of X G g__take_value), f__checked_integer, (PySem.W.fnOf "_checked_integer" "_checked_integer" (defArgs s__checked_integer) (defBody s__checked_integer) (defScope s__checked_integer) .none kV__checked_integer dc__checked_integer pm__checked_integer an__checked_integer cd__checked_integer ct__checked_integer), (fun_mk (st := s__checked_integer) l__checked_integer c__checked_integer k__checked_integer), ((fun_mk (st := s__checked_integer) l__checked_integer c__checked_integer k__checked_integer).binds (ps := ["number"]) fun _ _ _ _ _ _ us hl => match us, hl with | [_], _ => rfl), (PySem.W.mg_of X G g__checked_integer), f__take_text, (PySem.W.fnOf "_take_text" "_take_text" (defArgs s__take_text) (defBody s__take_text) (defScope s__take_text) .none kV__take_text dc__take_text pm__take_text an__take_text cd__take_text ct__take_text), (fun_mk (st := s__take_text) l__take_text c__take_text k__take_text), ((fun_mk (st := s__take_text) l__take_text c__take_text k__take_text).binds (ps := ["row", "index", "length"]) fun _ _ _ _ _ _ us hl => match us, hl with | [_, _, _], _ => rfl), (PySem.W.mg_of X G g__take_text), f__take_members, (PySem.W.fnOf "_take_members" "_take_members" (defArgs s__take_members) (defBody s__take_members) (defScope s__take_members) .none kV__take_members dc__take_members pm__take_members an__take_members cd__take_members ct__take_members), (fun_mk (st := s__take_members) l__take_members c__take_members k__take_members), ((fun_mk (st := s__take_members) l__take_members c__take_members k__take_members).binds (ps := ["row", "index", "length", "depth"]) fun _ _ _ _ _ _ us hl => match us, hl with | [_, _, _, _], _ => rfl), (PySem.W.mg_of X G g__take_members), f_checksum, (PySem.W.fnOf "checksum" "checksum" (defArgs s_checksum) (defBody s_checksum) (defScope s_checksum) (.ref dT_checksum) kV_checksum dc_checksum pm_checksum an_checksum cd_checksum ct_checksum), da_checksum_0, (fun H => Or.inr ⟨_, tv_checksum_0.toArray, tn_checksum_0, lq_checksum_0, rfl, rfl, (by rw [List.size_toArray, ← (Vals.length v_checksum_0)]; exact (by decide : 2 ≤ sizeLine)), (by simpa using v_checksum_0)⟩), (show FunD K "checksum" "checksum" (defArgs s_checksum) (defBody s_checksum) (defScope s_checksum) [.ref da_checksum_0] [] f_checksum (PySem.W.fnOf "checksum" "checksum" (defArgs s_checksum) (defBody s_checksum) (defScope s_checksum) (.ref dT_checksum) kV_checksum dc_checksum pm_checksum an_checksum cd_checksum ct_checksum) from ⟨⟨oc_checksum, od_checksum, .ref dT_checksum, kV_checksum, dc_checksum, pm_checksum, an_checksum, cd_checksum, ct_checksum, sl_checksum, rfl, l_checksum, c_checksum, Or.inr ⟨by simp, dT_checksum, _, [.ref da_checksum_0], dn_checksum, rfl, lT_checksum, rfl, (.cons rfl .nil)⟩, Or.inl rfl⟩, k_checksum⟩), ((show FunD K "checksum" "checksum" (defArgs s_checksum) (defBody s_checksum) (defScope s_checksum) [.ref da_checksum_0] [] f_checksum (PySem.W.fnOf "checksum" "checksum" (defArgs s_checksum) (defBody s_checksum) (defScope s_checksum) (.ref dT_checksum) kV_checksum dc_checksum pm_checksum an_checksum cd_checksum ct_checksum) from ⟨⟨oc_checksum, od_checksum, .ref dT_checksum, kV_checksum, dc_checksum, pm_checksum, an_checksum, cd_checksum, ct_checksum, sl_checksum, rfl, l_checksum, c_checksum, Or.inr ⟨by simp, dT_checksum, _, [.ref da_checksum_0], dn_checksum, rfl, lT_checksum, rfl, (.cons rfl .nil)⟩, Or.inl rfl⟩, k_checksum⟩).binds1 1 0 (by simp) rfl (fun T kV doc pm an cdv ct us its h1 h2 => match us, its, h1, h2 with | [_], [_], _, _ => ⟨_, rfl, rfl⟩)), ((show FunD K "checksum" "checksum" (defArgs s_checksum) (defBody s_checksum) (defScope s_checksum) [.ref da_checksum_0] [] f_checksum (PySem.W.fnOf "checksum" "checksum" (defArgs s_checksum) (defBody s_checksum) (defScope s_checksum) (.ref dT_checksum) kV_checksum dc_checksum pm_checksum an_checksum cd_checksum ct_checksum) from ⟨⟨oc_checksum, od_checksum, .ref dT_checksum, kV_checksum, dc_checksum, pm_checksum, an_checksum, cd_checksum, ct_checksum, sl_checksum, rfl, l_checksum, c_checksum, Or.inr ⟨by simp, dT_checksum, _, [.ref da_checksum_0], dn_checksum, rfl, lT_checksum, rfl, (.cons rfl .nil)⟩, Or.inl rfl⟩, k_checksum⟩).binds1 2 1 (by simp) rfl (fun T kV doc pm an cdv ct us its h1 h2 => match us, its, h1, h2 with | [_, _], [_], _, _ => ⟨_, rfl, rfl⟩)), (PySem.W.mg_of X G g_checksum), f_check_bytes, (PySem.W.fnOf "check_bytes" "check_bytes" (defArgs s_check_bytes) (defBody s_check_bytes) (defScope s_check_bytes) .none kV_check_bytes dc_check_bytes pm_check_bytes an_check_bytes cd_check_bytes ct_check_bytes), (fun_mk (st := s_check_bytes) l_check_bytes c_check_bytes k_check_bytes), ((fun_mk (st := s_check_bytes) l_check_bytes c_check_bytes k_check_bytes).binds (ps := ["pair"]) fun _ _ _ _ _ _ us hl => match us, hl with | [_], _ => rfl), (PySem.W.mg_of X G g_check_bytes), f_make_sector, (PySem.W.fnOf "make_sector" "make_sector" (defArgs s_make_sector) (defBody s_make_sector) (defScope s_make_sector) .none kV_make_sector dc_make_sector pm_make_sector an_make_sector cd_make_sector ct_make_sector), (fun_mk (st := s_make_sector) l_make_sector c_make_sector k_make_sector), ((fun_mk (st := s_make_sector) l_make_sector c_make_sector k_make_sector).binds (ps := ["kind", "payload"]) fun _ _ _ _ _ _ us hl => match us, hl with | [_, _], _ => rfl), (PySem.W.mg_of X G g_make_sector), f_read_sector, (PySem.W.fnOf "read_sector" "read_sector" (defArgs s_read_sector) (defBody s_read_sector) (defScope s_read_sector) .none kV_read_sector dc_read_sector pm_read_sector an_read_sector cd_read_sector ct_read_sector), (fun_mk (st := s_read_sector) l_read_sector c_read_sector k_read_sector), ((fun_mk (st := s_read_sector) l_read_sector c_read_sector k_read_sector).binds (ps := ["sector"]) fun _ _ _ _ _ _ us hl => match us, hl with | [_], _ => rfl), (PySem.W.mg_of X G g_read_sector), f__piece_count, (PySem.W.fnOf "_piece_count" "_piece_count" (defArgs s__piece_count) (defBody s__piece_count) (defScope s__piece_count) .none kV__piece_count dc__piece_count pm__piece_count an__piece_count cd__piece_count ct__piece_count), (fun_mk (st := s__piece_count) l__piece_count c__piece_count k__piece_count), ((fun_mk (st := s__piece_count) l__piece_count c__piece_count k__piece_count).binds (ps := ["packed"]) fun _ _ _ _ _ _ us hl => match us, hl with | [_], _ => rfl), (PySem.W.mg_of X G g__piece_count), f__sector_at, (PySem.W.fnOf "_sector_at" "_sector_at" (defArgs s__sector_at) (defBody s__sector_at) (defScope s__sector_at) .none kV__sector_at dc__sector_at pm__sector_at an__sector_at cd__sector_at ct__sector_at), (fun_mk (st := s__sector_at) l__sector_at c__sector_at k__sector_at), ((fun_mk (st := s__sector_at) l__sector_at c__sector_at k__sector_at).binds (ps := ["sectors", "index"]) fun _ _ _ _ _ _ us hl => match us, hl with | [_, _], _ => rfl), (PySem.W.mg_of X G g__sector_at), f__newest_head, (PySem.W.fnOf "_newest_head" "_newest_head" (defArgs s__newest_head) (defBody s__newest_head) (defScope s__newest_head) .none kV__newest_head dc__newest_head pm__newest_head an__newest_head cd__newest_head ct__newest_head), (fun_mk (st := s__newest_head) l__newest_head c__newest_head k__newest_head), ((fun_mk (st := s__newest_head) l__newest_head c__newest_head k__newest_head).binds (ps := ["sectors"]) fun _ _ _ _ _ _ us hl => match us, hl with | [_], _ => rfl), (PySem.W.mg_of X G g__newest_head), f__read_part, (PySem.W.fnOf "_read_part" "_read_part" (defArgs s__read_part) (defBody s__read_part) (defScope s__read_part) .none kV__read_part dc__read_part pm__read_part an__read_part cd__read_part ct__read_part), (fun_mk (st := s__read_part) l__read_part c__read_part k__read_part), ((fun_mk (st := s__read_part) l__read_part c__read_part k__read_part).binds (ps := ["sector"]) fun _ _ _ _ _ _ us hl => match us, hl with | [_], _ => rfl), (PySem.W.mg_of X G g__read_part), f__read_record, (PySem.W.fnOf "_read_record" "_read_record" (defArgs s__read_record) (defBody s__read_record) (defScope s__read_record) .none kV__read_record dc__read_record pm__read_record an__read_record cd__read_record ct__read_record), (fun_mk (st := s__read_record) l__read_record c__read_record k__read_record), ((fun_mk (st := s__read_record) l__read_record c__read_record k__read_record).binds (ps := ["sectors", "at", "generation", "record", "least_boot"]) fun _ _ _ _ _ _ us hl => match us, hl with | [_, _, _, _, _], _ => rfl), (PySem.W.mg_of X G g__read_record), f__part_sector, (PySem.W.fnOf "_part_sector" "_part_sector" (defArgs s__part_sector) (defBody s__part_sector) (defScope s__part_sector) .none kV__part_sector dc__part_sector pm__part_sector an__part_sector cd__part_sector ct__part_sector), (fun_mk (st := s__part_sector) l__part_sector c__part_sector k__part_sector), ((fun_mk (st := s__part_sector) l__part_sector c__part_sector k__part_sector).binds (ps := ["generation", "boot", "record", "part", "packed"]) fun _ _ _ _ _ _ us hl => match us, hl with | [_, _, _, _, _], _ => rfl), (PySem.W.mg_of X G g__part_sector), f__part_writes, (PySem.W.fnOf "_part_writes" "_part_writes" (defArgs s__part_writes) (defBody s__part_writes) (defScope s__part_writes) .none kV__part_writes dc__part_writes pm__part_writes an__part_writes cd__part_writes ct__part_writes), (fun_mk (st := s__part_writes) l__part_writes c__part_writes k__part_writes), ((fun_mk (st := s__part_writes) l__part_writes c__part_writes k__part_writes).binds (ps := ["rows", "at", "generation", "boot", "record"]) fun _ _ _ _ _ _ us hl => match us, hl with | [_, _, _, _, _], _ => rfl), (PySem.W.mg_of X G g__part_writes), f_Journal___init__, (PySem.W.fnOf "__init__" "Journal.__init__" (defArgs s_Journal___init__) (defBody s_Journal___init__) (defScope s_Journal___init__) .none kV_Journal___init__ dc_Journal___init__ pm_Journal___init__ an_Journal___init__ cd_Journal___init__ ct_Journal___init__), (fun_mk (st := s_Journal___init__) l_Journal___init__ c_Journal___init__ k_Journal___init__), ((fun_mk (st := s_Journal___init__) l_Journal___init__ c_Journal___init__ k_Journal___init__).binds (ps := ["self", "sectors", "boot"]) fun _ _ _ _ _ _ us hl => match us, hl with | [_, _, _], _ => rfl), f_Journal__read_records, (PySem.W.fnOf "_read_records" "Journal._read_records" (defArgs s_Journal__read_records) (defBody s_Journal__read_records) (defScope s_Journal__read_records) .none kV_Journal__read_records dc_Journal__read_records pm_Journal__read_records an_Journal__read_records cd_Journal__read_records ct_Journal__read_records), (fun_mk (st := s_Journal__read_records) l_Journal__read_records c_Journal__read_records k_Journal__read_records), ((fun_mk (st := s_Journal__read_records) l_Journal__read_records c_Journal__read_records k_Journal__read_records).binds (ps := ["self", "sectors", "least_boot"]) fun _ _ _ _ _ _ us hl => match us, hl with | [_, _, _], _ => rfl), ⟨m_Journal__read_records, i_Journal__read_records, k_Journal__read_records⟩, f_Journal_records, (PySem.W.fnOf "records" "Journal.records" (defArgs s_Journal_records) (defBody s_Journal_records) (defScope s_Journal_records) .none kV_Journal_records dc_Journal_records pm_Journal_records an_Journal_records cd_Journal_records ct_Journal_records), (fun_mk (st := s_Journal_records) l_Journal_records c_Journal_records k_Journal_records), ((fun_mk (st := s_Journal_records) l_Journal_records c_Journal_records k_Journal_records).binds (ps := ["self"]) fun _ _ _ _ _ _ us hl => match us, hl with | [_], _ => rfl), ⟨m_Journal_records, i_Journal_records, k_Journal_records⟩, f_Journal_sectors_used, (PySem.W.fnOf "sectors_used" "Journal.sectors_used" (defArgs s_Journal_sectors_used) (defBody s_Journal_sectors_used) (defScope s_Journal_sectors_used) .none kV_Journal_sectors_used dc_Journal_sectors_used pm_Journal_sectors_used an_Journal_sectors_used cd_Journal_sectors_used ct_Journal_sectors_used), (fun_mk (st := s_Journal_sectors_used) l_Journal_sectors_used c_Journal_sectors_used k_Journal_sectors_used), ((fun_mk (st := s_Journal_sectors_used) l_Journal_sectors_used c_Journal_sectors_used k_Journal_sectors_used).binds (ps := ["self"]) fun _ _ _ _ _ _ us hl => match us, hl with | [_], _ => rfl), ⟨m_Journal_sectors_used, i_Journal_sectors_used, k_Journal_sectors_used⟩, f_Journal_append, (PySem.W.fnOf "append" "Journal.append" (defArgs s_Journal_append) (defBody s_Journal_append) (defScope s_Journal_append) .none kV_Journal_append dc_Journal_append pm_Journal_append an_Journal_append cd_Journal_append ct_Journal_append), (fun_mk (st := s_Journal_append) l_Journal_append c_Journal_append k_Journal_append), ((fun_mk (st := s_Journal_append) l_Journal_append c_Journal_append k_Journal_append).binds (ps := ["self", "records"]) fun _ _ _ _ _ _ us hl => match us, hl with | [_, _], _ => rfl), ⟨m_Journal_append, i_Journal_append, k_Journal_append⟩, f_Journal_rewrite, (PySem.W.fnOf "rewrite" "Journal.rewrite" (defArgs s_Journal_rewrite) (defBody s_Journal_rewrite) (defScope s_Journal_rewrite) .none kV_Journal_rewrite dc_Journal_rewrite pm_Journal_rewrite an_Journal_rewrite cd_Journal_rewrite ct_Journal_rewrite), (fun_mk (st := s_Journal_rewrite) l_Journal_rewrite c_Journal_rewrite k_Journal_rewrite), ((fun_mk (st := s_Journal_rewrite) l_Journal_rewrite c_Journal_rewrite k_Journal_rewrite).binds (ps := ["self", "records"]) fun _ _ _ _ _ _ us hl => match us, hl with | [_, _], _ => rfl), ⟨m_Journal_rewrite, i_Journal_rewrite, k_Journal_rewrite⟩, f__law_draws, (PySem.W.fnOf "_law_draws" "_law_draws" (defArgs s__law_draws) (defBody s__law_draws) (defScope s__law_draws) .none kV__law_draws dc__law_draws pm__law_draws an__law_draws cd__law_draws ct__law_draws), (fun_mk (st := s__law_draws) l__law_draws c__law_draws k__law_draws), ((fun_mk (st := s__law_draws) l__law_draws c__law_draws k__law_draws).binds (ps := ["script", "many"]) fun _ _ _ _ _ _ us hl => match us, hl with | [_, _], _ => rfl), (PySem.W.mg_of X G g__law_draws), f__law_record, (PySem.W.fnOf "_law_record" "_law_record" (defArgs s__law_record) (defBody s__law_record) (defScope s__law_record) .none kV__law_record dc__law_record pm__law_record an__law_record cd__law_record ct__law_record), (fun_mk (st := s__law_record) l__law_record c__law_record k__law_record), ((fun_mk (st := s__law_record) l__law_record c__law_record k__law_record).binds (ps := ["draws"]) fun _ _ _ _ _ _ us hl => match us, hl with | [_], _ => rfl), (PySem.W.mg_of X G g__law_record), f__law_refused, (PySem.W.fnOf "_law_refused" "_law_refused" (defArgs s__law_refused) (defBody s__law_refused) (defScope s__law_refused) .none kV__law_refused dc__law_refused pm__law_refused an__law_refused cd__law_refused ct__law_refused), (fun_mk (st := s__law_refused) l__law_refused c__law_refused k__law_refused), ((fun_mk (st := s__law_refused) l__law_refused c__law_refused k__law_refused).binds (ps := ["journal", "records", "rewrites"]) fun _ _ _ _ _ _ us hl => match us, hl with | [_, _, _], _ => rfl), (PySem.W.mg_of X G g__law_refused), f__law_strange, (PySem.W.fnOf "_law_strange" "_law_strange" (defArgs s__law_strange) (defBody s__law_strange) (defScope s__law_strange) .none kV__law_strange dc__law_strange pm__law_strange an__law_strange cd__law_strange ct__law_strange), (fun_mk (st := s__law_strange) l__law_strange c__law_strange k__law_strange), ((fun_mk (st := s__law_strange) l__law_strange c__law_strange k__law_strange).binds (ps := ["draw"]) fun _ _ _ _ _ _ us hl => match us, hl with | [_], _ => rfl), (PySem.W.mg_of X G g__law_strange), f_law, (PySem.W.fnOf "law" "law" (defArgs s_law) (defBody s_law) (defScope s_law) .none kV_law dc_law pm_law an_law cd_law ct_law), (fun_mk (st := s_law) l_law c_law k_law), ((fun_mk (st := s_law) l_law c_law k_law).binds (ps := ["script"]) fun _ _ _ _ _ _ us hl => match us, hl with | [_], _ => rfl), (PySem.W.mg_of X G g_law), ⟨pg_Journal, hd_Journal, po_Journal, sa_Journal⟩, (PySem.W.mg_of X G gc_Journal), ⟨mk_Journal, m_Journal___init__, i_Journal___init__, kc_Journal⟩, na_Journal__boot, na_Journal__generation, na_Journal__start, na_Journal__used, na_Journal__records, t_SPACE, (PySem.W.mg_of X G c_SPACE), t_PERCENT, (PySem.W.mg_of X G c_PERCENT), t_TILDE, (PySem.W.mg_of X G c_TILDE), t_MOST_BYTES, (PySem.W.mg_of X G c_MOST_BYTES), t_MOST_BITS, (PySem.W.mg_of X G c_MOST_BITS), t_MOST_LENGTH, (PySem.W.mg_of X G c_MOST_LENGTH), t_MOST_DEPTH, (PySem.W.mg_of X G c_MOST_DEPTH), t_FALSE_TAG, (PySem.W.mg_of X G c_FALSE_TAG), t_TRUE_TAG, (PySem.W.mg_of X G c_TRUE_TAG), t_NATURAL_TAG, (PySem.W.mg_of X G c_NATURAL_TAG), t_NEGATIVE_TAG, (PySem.W.mg_of X G c_NEGATIVE_TAG), t_TEXT_TAG, (PySem.W.mg_of X G c_TEXT_TAG), t_TUPLE_TAG, (PySem.W.mg_of X G c_TUPLE_TAG), ca_CONSTANTS, (PySem.W.mg_of X G c_CONSTANTS), (fun H => Or.inr ⟨_, cv_CONSTANTS.toArray, cn_CONSTANTS, q_CONSTANTS, rfl, rfl, (by rw [List.size_toArray, ← (Vals.length v_CONSTANTS)]; exact (by decide : 3 ≤ sizeLine)), (by simpa using v_CONSTANTS)⟩), t_CHARACTERS, (PySem.W.mg_of X G c_CHARACTERS), t_PERCENT_BYTE, (PySem.W.mg_of X G c_PERCENT_BYTE), t_MODULUS, (PySem.W.mg_of X G c_MODULUS), t_PAYLOAD, (PySem.W.mg_of X G c_PAYLOAD), ca_BLANK, (PySem.W.mg_of X G c_BLANK), (fun H => Or.inr ⟨_, cv_BLANK.toArray, cn_BLANK, q_BLANK, rfl, rfl, (by rw [List.size_toArray, ← (Vals.length v_BLANK)]; exact (by decide : 64 ≤ sizeLine)), (by simpa using v_BLANK)⟩), t_CHECK_BYTES, (PySem.W.mg_of X G c_CHECK_BYTES), t_MOST_KIND, (PySem.W.mg_of X G c_MOST_KIND), t_HEAD_KIND, (PySem.W.mg_of X G c_HEAD_KIND), t_PART_KIND, (PySem.W.mg_of X G c_PART_KIND), t_PIECE, (PySem.W.mg_of X G c_PIECE), t_FIRST_START, (PySem.W.mg_of X G c_FIRST_START), (PySem.W.mg_none_of X G n_range), (PySem.W.mg_none_of X G n_min), (PySem.W.mg_none_of X G n_len), (PySem.W.mg_none_of X G n_ord), (PySem.W.mg_none_of X G n_isinstance), (PySem.W.mg_none_of X G n_bool), (PySem.W.mg_none_of X G n_int), (PySem.W.mg_none_of X G n_str), (PySem.W.mg_none_of X G n_tuple), (PySem.W.mg_none_of X G n_abs), (PySem.W.mg_none_of X G n_list), (PySem.W.mg_none_of X G n_sum)⟩
  exact ⟨T.d_law, fun s v => .of_eq rfl, fun base _ _ => ok_law T⟩
end My
open PySem PySem.W PyProof.Rows
set_option maxHeartbeats 0 in
theorem PySem.Challenge.cw_majordomo_k13_refused_records_holds : PySem.Challenge.rw_majordomo_k13_refused_records.Holds := by
  w_on; o_law; k_head; (case hw => w_witness2)
  k_fill
  refine L2.walk_of (l := PySem.Challenge.rw_majordomo_k13_refused_records) (n := 63) (k := 48) (x := "script") (CX := (fun _ => L2.CX0)) (sp := fun w => My.sp_law _) rfl (by decide) rfl ⟨rfl, by decide, by decide⟩ (fun w h Y => PySem.W.kIn_of Y) ?F (fun _ _ a ns hl _ hS => ⟨a, ns, rfl, hS, hl, fun _ => rfl⟩) (fun _ _ _ _ _ h => h)
  case F =>
    intro w mg fa h KX G hmg
    refine' My.all_mk KX G hmg ?g_MajordomoError ?x_MajordomoError ?k_MajordomoError ?s_MajordomoError ?t_MajordomoError ?g_CodecError ?x_CodecError ?k_CodecError ?s_CodecError ?t_CodecError ?g_Truncated ?x_Truncated ?k_Truncated ?s_Truncated ?t_Truncated ?g_Malformed ?x_Malformed ?k_Malformed ?s_Malformed ?t_Malformed ?g_Damaged ?x_Damaged ?k_Damaged ?s_Damaged ?t_Damaged ?g_NotAValue ?x_NotAValue ?k_NotAValue ?s_NotAValue ?t_NotAValue ?hx_NotAValue ?su_NotAValue ?Xhg_NotAValue ?Xhk_NotAValue ?Xhs_NotAValue ?Xhd_NotAValue ?Xha_NotAValue ?Xhn_NotAValue ?Xht_NotAValue ?Xhm_NotAValue ?y_NotAValue_Malformed ?y_NotAValue_CodecError ?g_has_plain_characters ?l_has_plain_characters ?c_has_plain_characters ?k_has_plain_characters ?g_put_number ?l_put_number ?c_put_number ?k_put_number ?g_take_number ?l_take_number ?c_take_number ?k_take_number ?g_is_value ?l_is_value ?c_is_value ?k_is_value ?g__is_value_within ?l__is_value_within ?c__is_value_within ?k__is_value_within ?g_pack ?l_pack ?c_pack ?k_pack ?g__packed ?l__packed ?c__packed ?k__packed ?g_unpack ?l_unpack ?c_unpack ?k_unpack ?g__take_value ?l__take_value ?c__take_value ?k__take_value ?g__checked_integer ?l__checked_integer ?c__checked_integer ?k__checked_integer ?g__take_text ?l__take_text ?c__take_text ?k__take_text ?g__take_members ?l__take_members ?c__take_members ?k__take_members ?g_checksum ?l_checksum ?c_checksum ?k_checksum ?lT_checksum ?lq_checksum_0 ?v_checksum_0 ?g_check_bytes ?l_check_bytes ?c_check_bytes ?k_check_bytes ?g_make_sector ?l_make_sector ?c_make_sector ?k_make_sector ?g_read_sector ?l_read_sector ?c_read_sector ?k_read_sector ?g__piece_count ?l__piece_count ?c__piece_count ?k__piece_count ?g__sector_at ?l__sector_at ?c__sector_at ?k__sector_at ?g__newest_head ?l__newest_head ?c__newest_head ?k__newest_head ?g__read_part ?l__read_part ?c__read_part ?k__read_part ?g__read_record ?l__read_record ?c__read_record ?k__read_record ?g__part_sector ?l__part_sector ?c__part_sector ?k__part_sector ?g__part_writes ?l__part_writes ?c__part_writes ?k__part_writes ?gc_Journal ?m_Journal___init__ ?i_Journal___init__ ?l_Journal___init__ ?c_Journal___init__ ?k_Journal___init__ ?m_Journal__read_records ?i_Journal__read_records ?l_Journal__read_records ?c_Journal__read_records ?k_Journal__read_records ?m_Journal_records ?i_Journal_records ?l_Journal_records ?c_Journal_records ?k_Journal_records ?m_Journal_sectors_used ?i_Journal_sectors_used ?l_Journal_sectors_used ?c_Journal_sectors_used ?k_Journal_sectors_used ?m_Journal_append ?i_Journal_append ?l_Journal_append ?c_Journal_append ?k_Journal_append ?m_Journal_rewrite ?i_Journal_rewrite ?l_Journal_rewrite ?c_Journal_rewrite ?k_Journal_rewrite ?g__law_draws ?l__law_draws ?c__law_draws ?k__law_draws ?g__law_record ?l__law_record ?c__law_record ?k__law_record ?g__law_refused ?l__law_refused ?c__law_refused ?k__law_refused ?g__law_strange ?l__law_strange ?c__law_strange ?k__law_strange ?g_law ?l_law ?c_law ?k_law ?pg_Journal ?hd_Journal ?po_Journal ?sa_Journal ?mk_Journal ?kc_Journal ?na_Journal__boot ?na_Journal__generation ?na_Journal__start ?na_Journal__used ?na_Journal__records ?c_SPACE ?c_PERCENT ?c_TILDE ?c_MOST_BYTES ?c_MOST_BITS ?c_MOST_LENGTH ?c_MOST_DEPTH ?c_FALSE_TAG ?c_TRUE_TAG ?c_NATURAL_TAG ?c_NEGATIVE_TAG ?c_TEXT_TAG ?c_TUPLE_TAG ?c_CONSTANTS ?q_CONSTANTS ?v_CONSTANTS ?c_CHARACTERS ?c_PERCENT_BYTE ?c_MODULUS ?c_PAYLOAD ?c_BLANK ?q_BLANK ?v_BLANK ?c_CHECK_BYTES ?c_MOST_KIND ?c_HEAD_KIND ?c_PART_KIND ?c_PIECE ?c_FIRST_START ?n_range ?n_min ?n_len ?n_ord ?n_isinstance ?n_bool ?n_int ?n_str ?n_tuple ?n_abs ?n_list ?n_sum
    (case g_MajordomoError => k_is); (case x_MajordomoError => k_exc); (case k_MajordomoError => k_is); (case s_MajordomoError => k_is); (case t_MajordomoError => k_is); (case g_CodecError => k_is); (case x_CodecError => k_exc); (case k_CodecError => k_is); (case s_CodecError => k_is); (case t_CodecError => k_is); (case g_Truncated => k_is); (case x_Truncated => k_exc); (case k_Truncated => k_is); (case s_Truncated => k_is); (case t_Truncated => k_is); (case g_Malformed => k_is); (case x_Malformed => k_exc); (case k_Malformed => k_is); (case s_Malformed => k_is); (case t_Malformed => k_is); (case g_Damaged => k_is); (case x_Damaged => k_exc); (case k_Damaged => k_is); (case s_Damaged => k_is); (case t_Damaged => k_is); (case g_NotAValue => k_is); (case x_NotAValue => k_exc); (case k_NotAValue => k_is); (case s_NotAValue => k_is); (case t_NotAValue => k_is); (case hx_NotAValue => k_is); (case su_NotAValue => k_is); (case Xhg_NotAValue => k_is); (case Xhk_NotAValue => k_is); (case Xhs_NotAValue => k_is); (case Xhd_NotAValue => k_is); (case Xha_NotAValue => k_is); (case Xhn_NotAValue => k_is); (case Xht_NotAValue => k_is); (case Xhm_NotAValue => k_is); (case y_NotAValue_Malformed => kit_is); (case y_NotAValue_CodecError => kit_is); (case g_has_plain_characters => k_is); (case l_has_plain_characters => k_is); (case c_has_plain_characters => k_is); (case k_has_plain_characters => k_is); (case g_put_number => k_is); (case l_put_number => k_is); (case c_put_number => k_is); (case k_put_number => k_is); (case g_take_number => k_is); (case l_take_number => k_is); (case c_take_number => k_is); (case k_take_number => k_is); (case g_is_value => k_is); (case l_is_value => k_is); (case c_is_value => k_is); (case k_is_value => k_is); (case g__is_value_within => k_is); (case l__is_value_within => k_is); (case c__is_value_within => k_is); (case k__is_value_within => k_is); (case g_pack => k_is); (case l_pack => k_is); (case c_pack => k_is); (case k_pack => k_is); (case g__packed => k_is); (case l__packed => k_is); (case c__packed => k_is); (case k__packed => k_is); (case g_unpack => k_is); (case l_unpack => k_is); (case c_unpack => k_is); (case k_unpack => k_is); (case g__take_value => k_is); (case l__take_value => k_is); (case c__take_value => k_is); (case k__take_value => k_is); (case g__checked_integer => k_is); (case l__checked_integer => k_is); (case c__checked_integer => k_is); (case k__checked_integer => k_is); (case g__take_text => k_is); (case l__take_text => k_is); (case c__take_text => k_is); (case k__take_text => k_is); (case g__take_members => k_is); (case l__take_members => k_is); (case c__take_members => k_is); (case k__take_members => k_is); (case g_checksum => k_is); (case l_checksum => k_is); (case c_checksum => k_is); (case k_checksum => k_is); (case lT_checksum => k_is); (case lq_checksum_0 => k_is); (case v_checksum_0 => (repeat (first | exact .nil | refine .cons ⟨_, rfl⟩ ?_ | refine .cons rfl ?_))); (case g_check_bytes => k_is); (case l_check_bytes => k_is); (case c_check_bytes => k_is); (case k_check_bytes => k_is); (case g_make_sector => k_is); (case l_make_sector => k_is); (case c_make_sector => k_is); (case k_make_sector => k_is); (case g_read_sector => k_is); (case l_read_sector => k_is); (case c_read_sector => k_is); (case k_read_sector => k_is); (case g__piece_count => k_is); (case l__piece_count => k_is); (case c__piece_count => k_is); (case k__piece_count => k_is); (case g__sector_at => k_is); (case l__sector_at => k_is); (case c__sector_at => k_is); (case k__sector_at => k_is); (case g__newest_head => k_is); (case l__newest_head => k_is); (case c__newest_head => k_is); (case k__newest_head => k_is); (case g__read_part => k_is); (case l__read_part => k_is); (case c__read_part => k_is); (case k__read_part => k_is); (case g__read_record => k_is); (case l__read_record => k_is); (case c__read_record => k_is); (case k__read_record => k_is); (case g__part_sector => k_is); (case l__part_sector => k_is); (case c__part_sector => k_is); (case k__part_sector => k_is); (case g__part_writes => k_is); (case l__part_writes => k_is); (case c__part_writes => k_is); (case k__part_writes => k_is); (case gc_Journal => k_is); (case m_Journal___init__ => k_is); (case i_Journal___init__ => k_is); (case l_Journal___init__ => k_is); (case c_Journal___init__ => k_is); (case k_Journal___init__ => k_is); (case m_Journal__read_records => k_is); (case i_Journal__read_records => k_is); (case l_Journal__read_records => k_is); (case c_Journal__read_records => k_is); (case k_Journal__read_records => k_is); (case m_Journal_records => k_is); (case i_Journal_records => k_is); (case l_Journal_records => k_is); (case c_Journal_records => k_is); (case k_Journal_records => k_is); (case m_Journal_sectors_used => k_is); (case i_Journal_sectors_used => k_is); (case l_Journal_sectors_used => k_is); (case c_Journal_sectors_used => k_is); (case k_Journal_sectors_used => k_is); (case m_Journal_append => k_is); (case i_Journal_append => k_is); (case l_Journal_append => k_is); (case c_Journal_append => k_is); (case k_Journal_append => k_is); (case m_Journal_rewrite => k_is); (case i_Journal_rewrite => k_is); (case l_Journal_rewrite => k_is); (case c_Journal_rewrite => k_is); (case k_Journal_rewrite => k_is); (case g__law_draws => k_is); (case l__law_draws => k_is); (case c__law_draws => k_is); (case k__law_draws => k_is); (case g__law_record => k_is); (case l__law_record => k_is); (case c__law_record => k_is); (case k__law_record => k_is); (case g__law_refused => k_is); (case l__law_refused => k_is); (case c__law_refused => k_is); (case k__law_refused => k_is); (case g__law_strange => k_is); (case l__law_strange => k_is); (case c__law_strange => k_is); (case k__law_strange => k_is); (case g_law => k_is); (case l_law => k_is); (case c_law => k_is); (case k_law => k_is); (case pg_Journal => k_is); (case hd_Journal => k_is); (case po_Journal => k_is); (case sa_Journal => k_is); (case mk_Journal => k_is); (case kc_Journal => k_is); (case na_Journal__boot => k_is); (case na_Journal__generation => k_is); (case na_Journal__start => k_is); (case na_Journal__used => k_is); (case na_Journal__records => k_is); (case c_SPACE => k_is); (case c_PERCENT => k_is); (case c_TILDE => k_is); (case c_MOST_BYTES => k_is); (case c_MOST_BITS => k_is); (case c_MOST_LENGTH => k_is); (case c_MOST_DEPTH => k_is); (case c_FALSE_TAG => k_is); (case c_TRUE_TAG => k_is); (case c_NATURAL_TAG => k_is); (case c_NEGATIVE_TAG => k_is); (case c_TEXT_TAG => k_is); (case c_TUPLE_TAG => k_is); (case c_CONSTANTS => k_is); (case q_CONSTANTS => k_is); (case v_CONSTANTS => (repeat (first | exact .nil | refine .cons ⟨_, rfl⟩ ?_ | refine .cons rfl ?_))); (case c_CHARACTERS => k_is); (case c_PERCENT_BYTE => k_is); (case c_MODULUS => k_is); (case c_PAYLOAD => k_is); (case c_BLANK => k_is); (case q_BLANK => k_is); (case v_BLANK => (repeat (first | exact .nil | refine .cons ⟨_, rfl⟩ ?_ | refine .cons rfl ?_))); (case c_CHECK_BYTES => k_is); (case c_MOST_KIND => k_is); (case c_HEAD_KIND => k_is); (case c_PART_KIND => k_is); (case c_PIECE => k_is); (case c_FIRST_START => k_is); (case n_range => k_is); (case n_min => k_is); (case n_len => k_is); (case n_ord => k_is); (case n_isinstance => k_is); (case n_bool => k_is); (case n_int => k_is); (case n_str => k_is); (case n_tuple => k_is); (case n_abs => k_is); (case n_list => k_is); (case n_sum => k_is)

