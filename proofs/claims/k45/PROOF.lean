import PyProof.Rows.All
import Wide.All
import OpenK.AllK
import Wide.FinOn
import HandS.ForMost
import HandS.IsInst
import HandS.EndBits
import HandS.Wide
import HandS.WideBits
import HandS.TupAny
import HandS.Codes
import HandS.Defaults
import HandS.ForExc
import HandS.TryMany
import HandS.ExcIs
import HandS.TryElse
import HandS.DictComp
import HandS.Walk
import HandS.More
import HandS.Sort
import HandS.SortKw
import HandS.Flow
import HandS.MakeKwOnly
import PySem.Challenge.RW_majordomo_k45_work_queue_loses_nothing
set_option Elab.async false
set_option linter.all false
set_option maxRecDepth 100000
set_option maxHeartbeats 4000000

namespace My
open PySem PySem.Spec PyProof.Rows L2
/-! own words: tests, heaps, items -/
theorem ifd {p A B : Prop} [Decidable p] (h1 : p → A) (h2 : ¬ p → B) : if decide p = true then A else B := by
  by_cases h : p
  · rw [decide_eq_true h]; exact (if_pos rfl).mpr (h1 h)
  · rw [decide_eq_false h]; exact (if_neg Bool.false_ne_true).mpr (h2 h)
theorem ifn {p A B : Prop} [Decidable p] (h1 : ¬ p → A) (h2 : p → B) : if (!decide p) = true then A else B := by
  by_cases h : p
  · rw [decide_eq_true h]; exact (if_neg Bool.false_ne_true).mpr (h2 h)
  · rw [decide_eq_false h]; exact (if_pos rfl).mpr (h1 h)
theorem ift {p A B : Prop} [Decidable p] (h : p) (h1 : A) : if decide p = true then A else B := by
  rw [decide_eq_true h]; exact (if_pos rfl).mpr h1
theorem iff0 {p A B : Prop} [Decidable p] (h : ¬ p) (h1 : B) : if decide p = true then A else B := by
  rw [decide_eq_false h]; exact (if_neg Bool.false_ne_true).mpr h1
theorem ifnt {p A B : Prop} [Decidable p] (h : p) (h1 : B) : if (!decide p) = true then A else B := by
  rw [decide_eq_true h]; exact (if_neg Bool.false_ne_true).mpr h1
theorem ifbt {b : Bool} {A B : Prop} (h : b = true) (h1 : A) : if b = true then A else B := (if_pos h).mpr h1
theorem ifbf {b : Bool} {A B : Prop} (h : b = false) (h1 : B) : if b = true then A else B := by rw [h]; exact h1
theorem ifb2 {b : Bool} {A B : Prop} (h1 : b = true → A) (h2 : b = false → B) : if b = true then A else B := by
  cases b with
  | true => exact h1 rfl
  | false => exact h2 rfl
theorem same_upd {H : Hp} {p : Addr} {o : HO} (h : H p = none) : Same H (upd H p o) := fun b x e => by
  rw [upd_ne (ne_of_none e h)]
  exact e
theorem same_put {H H' : Hp} {p : Addr} {o : HO} (e : Same H H') (h : H p = none) : Same H (upd H' p o) := fun b x q => by
  rw [upd_ne (ne_of_none q h)]
  exact e b x q
theorem sqt_same {K : PySem.W.Frag} {H H' : Hp} {a : Addr} {xs : List V} (e : Same H H') (h : SqT K H a xs) : SqT K H' a xs := by
  rcases h with (h | ⟨o, h⟩) | h
  · exact .inl (.inl (e _ _ h))
  · exact .inl (.inr ⟨o, e _ _ h⟩)
  · exact .inr h
theorem sql {K : PySem.W.Frag} {H : Hp} {a : Addr} {xs : List V} (h : H a = some (.lst xs)) : SqL K H a xs := .inl (.inl h)
theorem sqt {K : PySem.W.Frag} {H : Hp} {a : Addr} {xs : List V} (h : H a = some (.tup xs)) : SqT K H a xs := .inl (.inl h)
theorem sz {n : Nat} (h : n ≤ 100000) : n ≤ sizeLine := Nat.le_trans h (by decide)
theorem szl {n : Nat} (h : n ≤ 100000) : n < sizeLine := Nat.lt_of_le_of_lt h (by decide)
theorem map_at {α : Type} {f : α → V} {xs : List α} {i : Nat} {y : V} (h : (xs.map f)[i]? = some y) : ∃ x, xs[i]? = some x ∧ y = f x := by
  rw [List.getElem?_map] at h
  cases e : xs[i]? with
  | none => rw [e] at h; cases h
  | some x => rw [e] at h; exact ⟨x, rfl, (Option.some.inj h).symm⟩
theorem at_map {α : Type} {f : α → V} {xs : List α} {i : Nat} {x : α} (h : xs[i]? = some x) : atI (xs.map f) (i : Int) = some (f x) := atI_nat (by rw [List.getElem?_map, h]; rfl)
theorem take_more {α : Type} {l : List α} {i : Nat} {x : α} (h : l[i]? = some x) : l.take (i + 1) = l.take i ++ [x] := by
  rw [List.take_add_one, h]; rfl
/-! deep data stands as long as what was tracked stands -/
mutual
theorem dp_same {K : PySem.W.Frag} {H H' : Hp} (e : Same H H') : ∀ (d : PyData) {v : V}, Dp K H v d → Dp K H' v d
  | _, _, .non => .non
  | _, _, .bl b => .bl b
  | _, _, .int i => .int i
  | _, _, .str x => .str x
  | .list ds, _, .lst h a => .lst (e.seq h) (dpa_same e ds a)
  | .tuple ds, _, .tup h a => .tup (sqt_same e h) (dpa_same e ds a)
theorem dpa_same {K : PySem.W.Frag} {H H' : Hp} (e : Same H H') : ∀ (ds : List PyData) {vs : List V}, DpAll K H vs ds → DpAll K H' vs ds
  | [], _, .nil => .nil
  | d :: ds, _, .cons h a => .cons (dp_same e d h) (dpa_same e ds a)
end
theorem dpa_len {K : PySem.W.Frag} {H : Hp} : ∀ {vs : List V} {ds : List PyData}, DpAll K H vs ds → vs.length = ds.length
  | _, _, .nil => rfl
  | _, _, .cons _ a => by rw [List.length_cons, List.length_cons, dpa_len a]
theorem dpa_at {K : PySem.W.Frag} {H : Hp} : ∀ {vs : List V} {ds : List PyData} {i : Nat} {v : V}, DpAll K H vs ds → vs[i]? = some v → ∃ d, ds[i]? = some d ∧ Dp K H v d
  | _, _, _, _, .nil, h => by simp at h
  | _, _, 0, _, .cons h _, e => ⟨_, rfl, by have := Option.some.inj e; subst this; exact h⟩
  | _, _, i + 1, _, .cons _ a, e => dpa_at (i := i) a (by simpa using e)
theorem dpa_app {K : PySem.W.Frag} {H : Hp} : ∀ {vs ws : List V} {ds es : List PyData}, DpAll K H vs ds → DpAll K H ws es → DpAll K H (vs ++ ws) (ds ++ es)
  | _, _, _, _, .nil, b => b
  | _, _, _, _, .cons h a, b => .cons h (dpa_app a b)
theorem eqv_self {d : PyData} (h : SeqAt.shaped d = true) : PyData.eqv d d = true := SeqAt.eqv_refl d (SeqAt.canLay_of_shaped h)
/-! data that may be compared -/
theorem layAll : ∀ {ds : List PyData}, (∀ d ∈ ds, d.canLay0 = true) → PyData.canLayAll0 ds = true
  | [], _ => rfl
  | d :: ds, h => by
    rw [PyData.canLayAll0, h d List.mem_cons_self, layAll fun e he => h e (List.mem_cons_of_mem _ he)]; rfl
theorem depAll {n : Nat} : ∀ {ds : List PyData}, (∀ d ∈ ds, d.depth ≤ n) → PyData.depthAll ds ≤ n
  | [], _ => Nat.zero_le _
  | d :: ds, h => by
    have h1 := h d List.mem_cons_self
    have h2 := depAll (ds := ds) fun e he => h e (List.mem_cons_of_mem _ he)
    simp only [PyData.depthAll]
    omega
/-- plain data of at most this depth -/
def Flat (n : Nat) (d : PyData) : Prop := d.canLay0 = true ∧ d.depth ≤ n
theorem flat_list {n : Nat} {ds : List PyData} (h : ∀ d ∈ ds, Flat n d) : Flat (n + 1) (.list ds) :=
  ⟨by rw [PyData.canLay0]; exact layAll fun d hd => (h d hd).1, by have := depAll (n := n) fun d hd => (h d hd).2; simp only [PyData.depth]; omega⟩
theorem flat_tup {n : Nat} {ds : List PyData} (h : ∀ d ∈ ds, Flat n d) : Flat (n + 1) (.tuple ds) :=
  ⟨by rw [PyData.canLay0]; exact layAll fun d hd => (h d hd).1, by have := depAll (n := n) fun d hd => (h d hd).2; simp only [PyData.depth]; omega⟩
theorem flat_int (n : Nat) (i : Int) : Flat n (.int i) := ⟨rfl, by simp [PyData.depth]⟩
theorem flat_str (n : Nat) (x : Str) (h : (PyData.str x).canLay0 = true := by decide +kernel) : Flat n (.str x) := ⟨h, by simp [PyData.depth]⟩
theorem flat_bl (n : Nat) (b : Bool) : Flat n (.bool b) := ⟨rfl, by simp [PyData.depth]⟩
theorem flat_non (n : Nat) : Flat n .none := ⟨rfl, by simp [PyData.depth]⟩
theorem Flat.mono {n m : Nat} {d : PyData} (h : Flat n d) (hm : n ≤ m) : Flat m d := ⟨h.1, Nat.le_trans h.2 hm⟩
theorem Flat.sh {n : Nat} {d : PyData} (h : Flat n d) (hn : n ≤ 64) : SeqAt.shaped d = true := by
  show (d.canLay0 && decide (d.depth ≤ 64)) = true
  rw [Bool.and_eq_true]
  exact ⟨h.1, decide_eq_true (Nat.le_trans h.2 hn)⟩
theorem tyx_t {K : PySem.W.Frag} {H : Hp} {a : Addr} {xs : List V} (h : SqT K H a xs) : TyX K H (.ref a) (.type "tuple") := by
  rcases h with (h | ⟨o, h⟩) | ⟨o, its, n, h, hc, _⟩
  · exact .base (.tup h)
  · exact .fTuple h
  · exact .kTuple h hc
theorem tyx_l {K : PySem.W.Frag} {H : Hp} {a : Addr} {xs : List V} (h : SqL K H a xs) : TyX K H (.ref a) (.type "list") := by
  rcases h with (h | ⟨o, h⟩) | ⟨o, its, n, h, hc, _⟩
  · exact .base (.lst h)
  · exact .base (.frz h)
  · exact .kList h hc
theorem same_both {G H : Hp} {t : Addr} {x : HO} (e : Same G H) : Same (upd G t x) (upd H t x) := fun b o h => by
  by_cases hb : b = t
  · subst hb; rw [upd_same] at h ⊢; exact h
  · rw [upd_ne hb] at h ⊢; exact e b o h
theorem set_self {α : Type} : ∀ {l : List α} {i : Nat} {x : α}, l[i]? = some x → l.set i x = l
  | [], i, x, h => by simp at h
  | a :: l, 0, x, h => by
    have e : a = x := Option.some.inj h
    subst e
    rfl
  | a :: l, i + 1, x, h => by
    show a :: l.set i x = a :: l
    rw [set_self (by simpa using h)]
theorem ixn {n j : Nat} {i : Int} (hi : i = (j : Int)) (hj : j < n) : ixN n i = some j := by
  unfold ixN
  rw [if_pos (by omega), if_pos (by omega)]
  congr 1
  omega
/-! shifts and masks in place -/
section
variable {X : Cx}
theorem ip_shr : PIp X .RShift (fun x y H Q => ∃ (i : Int) (k : Nat), x = .int i ∧ y = .int (k : Int) ∧ Q (.int (i / 2 ^ k)) H) := by
  intro pins s σ H x y v u Q I r1 r2 h
  obtain ⟨i, k, e1, e2, q⟩ := h
  subst e1; subst e2
  obtain ⟨t, rfl⟩ := r1
  obtain ⟨t', rfl⟩ := r2
  refine irshift_int (Int.natCast_nonneg k) ⟨.int _, H, I.tok _, ⟨_, rfl⟩, ?_⟩
  rw [Int.toNat_natCast, Int.fdiv_eq_ediv_of_nonneg _ (Int.le_of_lt (Int.pow_pos (by decide)))]
  exact q
theorem ip_or : PIp X .BitOr (fun x y H Q => ∃ (r a : Int) (k : Nat), x = .int r ∧ y = .int (a * 2 ^ k) ∧ (0 ≤ a ∧ 0 ≤ r ∧ r < 2 ^ k) ∧ Q (.int (r + a * 2 ^ k)) H) := by
  intro pins s σ H x y v u Q I r1 r2 h
  obtain ⟨r, a, k, e1, e2, ⟨h0, h1, h2⟩, q⟩ := h
  subst e1; subst e2
  obtain ⟨t, rfl⟩ := r1
  obtain ⟨t', rfl⟩ := r2
  refine ior_int ⟨.int _, H, I.tok _, ⟨_, rfl⟩, ?_⟩
  have e : Builtin.bitOr r (a * 2 ^ k) = r + a * 2 ^ k := by
    have hp : (0 : Int) ≤ a * 2 ^ k := Int.mul_nonneg h0 (Int.le_of_lt (Int.pow_pos (by decide)))
    rw [bitOr_nn h1 hp, Nat.or_comm, ← bitOr_nn hp h1, or_low h0 h1 h2, Int.add_comm]
  rw [e]
  exact q
end
theorem bits_small : ∀ n : Nat, n < 128 → Builtin.Int.intBits (n : Int) ≤ 8 := by decide +kernel
/-- isinstance(e, c) of the error that a suite holds, its class known by the reading -/
theorem call_isE1 {X : Cx} {a D : Addr} {oe : Obj} {cls : Value} {d : Option Addr} {pn : List (Addr × Obj)} (C : ExcC X.K D) (hz : Zc cls d oe) (hf : ∃ vs, oe.data = .fields vs) :
    CallR (X.suite a ((a, oe) :: pn)) (.builtin "isinstance") (fun xs H Q => cls = .ref D ∧ d = none ∧ rIsE X.K D a xs H Q) := fun pins s σ H xs us Q I r h => by
  obtain ⟨h1, h2, h⟩ := h
  subst h1
  subst h2
  exact call_isE C hz hf pins s σ H xs us Q I r h
/-! slices -/
theorem sIx_le {n d : Nat} {i : Nat} : HT.sIx n d (some (i : Int)) = min i n := HT.sIx_nat n d i
theorem cut0n (xs : List V) (j : Nat) : cutV xs none (some (j : Int)) = xs.take j := by
  unfold cutV
  rw [sIx_le, HT.sIx_none, List.drop_zero, Nat.sub_zero]
  exact (List.take_eq_take_min).symm
theorem cutnn (xs : List V) (i j : Nat) : cutV xs (some (i : Int)) (some (j : Int)) = (xs.drop i).take (j - i) := by
  unfold cutV
  rw [sIx_le, sIx_le]
  by_cases hi : i ≤ xs.length
  · rw [Nat.min_eq_left hi]
    by_cases hj : j ≤ xs.length
    · rw [Nat.min_eq_left hj]
    · rw [Nat.min_eq_right (by omega), List.take_of_length_le (by rw [List.length_drop]; omega), List.take_of_length_le (by rw [List.length_drop]; omega)]
  · have e : min i xs.length = xs.length := by omega
    rw [e, List.drop_of_length_le (Nat.le_refl _), List.drop_of_length_le (show xs.length ≤ i by omega), List.take_nil, List.take_nil]
theorem cut_ints (ns : List Int) {i j : Nat} {a b : Int} (ha : a = i) (hb : b = j) : cutV (ns.map V.int) (some a) (some b) = ((ns.drop i).take (j - i)).map V.int := by
  rw [ha, hb, cutnn, ← List.map_drop, ← List.map_take]
theorem rep_ints (ns : List Int) (k : Nat) : (List.replicate k (ns.map V.int)).flatten = (List.replicate k ns).flatten.map V.int := by
  rw [List.map_flatten, List.map_replicate]
/-- [e for x in a slice], e changes nothing -/
theorem lc_cut {K : PySem.W.Frag} {wi : TI} {te : TE} {s : Nat} {σ : L2.St} {H : Hp} {Q : VK} (xs : List V) (f : V → V)
    (hwi : ∀ R : It → Hp → Prop, (∀ p, H p = none → R (Itl K p) (upd H p (.lst xs))) → wi σ H R) (hlen : xs.length ≤ 90000)
    (hw : ∀ x, wipe ((wipe σ [s]).set s (some x)) [s] = wipe σ [s])
    (he : ∀ (i : Nat) (x : V) (G : Hp) (Q' : VK), xs[i]? = some x → Same H G → Q' (f x) G → te ((wipe σ [s]).set s (some x)) G Q')
    (k : ∀ D H', H D = none → Same H H' → H' D = some (.lst (xs.map f)) → Q (.ref D) H') : tLc wi (gName s) tYes te [s] σ H Q := by
  refine hwi _ fun p hp D hD => ?_
  have nD : D ≠ p := fun z => by rw [z, upd_same] at hD; cases hD
  have hD0 : H D = none := by rw [upd_ne nD] at hD; exact hD
  refine lc_list (K := K) (a := p) (xs := xs) (fun i H' => Same H H' ∧ H' p = some (.lst xs) ∧ H' D = some (.lst ((xs.take i).map f)))
    ⟨(same_upd hp).trans (same_upd hD), by rw [upd_ne nD.symm, upd_same], by rw [upd_same]; rfl⟩ (fun i H' _ h => sql h.2.1) (fun i x G hx hG => ?_) (fun G hG => ?_)
  · refine ⟨hw x, ?_⟩
    refine he i x G _ hx hG.1 ⟨_, hG.2.2, szl (by rw [List.length_map, List.length_take]; omega), same_put hG.1 hD0, by rw [upd_ne nD.symm]; exact hG.2.1, ?_⟩
    rw [upd_same, take_more hx, List.map_append]
    rfl
  · refine k D G hD0 hG.1 ?_
    rw [List.take_length] at hG
    exact hG.2.2
/-- lists of ints as data -/
theorem dpa_ints {K : PySem.W.Frag} {H : Hp} : ∀ ns : List Int, DpAll K H (ns.map V.int) (ns.map PyData.int)
  | [] => .nil
  | n :: ns => .cons (.int n) (dpa_ints ns)
theorem dp_ints {K : PySem.W.Frag} {H : Hp} {a : Addr} {ns : List Int} (h : SqL K H a (ns.map V.int)) : Dp K H (.ref a) (.list (ns.map PyData.int)) := .lst h (dpa_ints ns)
theorem flat_ints (ns : List Int) : Flat 1 (.list (ns.map PyData.int)) := flat_list (n := 0) fun d hd => by
  obtain ⟨i, _, rfl⟩ := List.mem_map.mp hd
  exact flat_int _ _
theorem flat_tints (ns : List Int) : Flat 1 (.tuple (ns.map PyData.int)) := flat_tup (n := 0) fun d hd => by
  obtain ⟨i, _, rfl⟩ := List.mem_map.mp hd
  exact flat_int _ _
theorem eqvAll_ints : ∀ xs ys : List Int, PyData.eqvAll (xs.map .int) (ys.map .int) = decide (xs = ys)
  | [], [] => rfl
  | [], _ :: _ => rfl
  | _ :: _, [] => rfl
  | x :: xs, y :: ys => by
    show ((x == y) && PyData.eqvAll (xs.map .int) (ys.map .int)) = _
    rw [eqvAll_ints xs ys, Bool.eq_iff_iff]
    simp
theorem eqv_ints (xs ys : List Int) : PyData.eqv (.list (xs.map .int)) (.list (ys.map .int)) = decide (xs = ys) := eqvAll_ints xs ys
theorem eqv_tints (xs ys : List Int) : PyData.eqv (.tuple (xs.map .int)) (.tuple (ys.map .int)) = decide (xs = ys) := eqvAll_ints xs ys
/-- a def with defaults that lets nothing out -/
theorem okD {P : Program} {w : World} {K : PySem.W.Frag} {mg : Str → Option Value} {base : Heap} {x qual : Str} {params : Arguments} {body : List Stmt} {scope : Scope} {dvs : List V} {kws : List (Str × V)} {f : Addr} {fd : FuncData} {N ps : List Str} {k : Nat} {sp : Sp}
    (F : FunD K x qual params body scope dvs kws f fd) (S : FnScope N ps scope) (len : ∀ vs H Q E, sp vs H Q E → vs.length = ps.length)
    (hb : ∀ (cdv : Value) (A : Around) (outer : List Env) (s : Shared) (H : Hp) (vs : List V) (Q : VK) (E : XK), Room k (A.deeper (envOfC qual scope s.heap.objs.size f cdv)) → sp vs H Q E →
      ∃ t, PSs (cxOf CX0 P w K mg base N qual scope f cdv A outer s H E).nox body t ∧ t { nx := fun _ H' => Q .non H', rt := Q } (start N vs) H) : FnOk P w K mg base CX0 (k + 1) f fd ps sp :=
  F.ok S len fun cdv A outer s H vs Q E hr h => by
    obtain ⟨t, h1, q⟩ := hb cdv A outer s H vs Q E hr h
    exact ⟨t, h1.nox, q⟩
/-! what an expression gives, whatever stands besides -/
def EI (te : TE) (σ : L2.St) (H : Hp) (v : V) : Prop := ∀ G, Same H G → ∀ Q : VK, Q v G → te σ G Q
def EA (ta : TA) (σ : L2.St) (H : Hp) (vs : List V) : Prop := ∀ G, Same H G → ∀ Q : List V → Hp → Prop, Q vs G → ta σ G Q
/-- a list, new or old -/
def EL (te : TE) (σ : L2.St) (H : Hp) (xs : List V) : Prop := ∀ G, Same H G → ∀ Q : VK, (∀ p G', Same G G' → G' p = some (.lst xs) → Q (.ref p) G') → te σ G Q
section
variable {K : PySem.W.Frag} {σ : L2.St} {H : Hp} {ta tb te : TE} {x y z v : V} {xs ys : List V}
theorem ei_var {i : Nat} (h : σ[i]? = some (some v)) : EI (tVar i) σ H v := fun _ _ _ q => ⟨v, h, q⟩
theorem ei_c : EI (tC v) σ H v := fun _ _ _ q => q
theorem ei_op {r : R2} (ha : EI ta σ H x) (hb : EI tb σ H y) (hr : ∀ G, Same H G → ∀ Q : VK, Q z G → r x y G Q) : EI (tOp r ta tb) σ H z := fun G s Q q => ha G s _ (hb G s _ (hr G s Q q))
theorem ei_i0 {g : Int → Int → V} {i j : Int} (ha : EI ta σ H (.int i)) (hb : EI tb σ H (.int j)) : EI (tOp (rI0 g) ta tb) σ H (g i j) := ei_op ha hb fun _ _ _ q => ⟨i, j, rfl, rfl, q⟩
theorem ei_ic {C : Int → Int → Prop} {g : Int → Int → V} {i j : Int} (ha : EI ta σ H (.int i)) (hb : EI tb σ H (.int j)) (hc : C i j) : EI (tOp (rI C g) ta tb) σ H (g i j) := ei_op ha hb fun _ _ _ q => ⟨i, j, rfl, rfl, hc, q⟩
theorem ea_nil : EA tNil σ H [] := fun _ _ _ q => q
theorem ea_cons {tr : TA} {vs : List V} (h : EI ta σ H x) (g : EA tr σ H vs) : EA (tCons ta tr) σ H (x :: vs) := fun G s _ q => h G s _ (g G s _ q)
theorem ei_cb {r : List V → Hp → VK → Prop} {tr : TA} {vs : List V} (ha : EA tr σ H vs) (hr : ∀ G, Same H G → ∀ Q : VK, Q z G → r vs G Q) : EI (tCB r tr) σ H z := fun G s Q q => ha G s _ (hr G s Q q)
/-- len of a list, list(..) of a list or a tuple, as they are read -/
def rLen (K : PySem.W.Frag) : List V → Hp → VK → Prop := fun xs H Q => ∃ p ys, xs = [.ref p] ∧ (SqL K H p ys ∨ SqT K H p ys) ∧ Q (.int ys.length) H
def rLst (K : PySem.W.Frag) : List V → Hp → VK → Prop := fun xs H Q => ∃ p ys, xs = [.ref p] ∧ (SqL K H p ys ∨ SqT K H p ys) ∧ ∀ l, H l = none → Q (.ref l) (upd H l (.lst ys))
def rTup (K : PySem.W.Frag) : List V → Hp → VK → Prop := fun xs H Q => ∃ p ys, xs = [.ref p] ∧ ((SqL K H p ys ∧ ∀ l, H l = none → Q (.ref l) (upd H l (.tup ys))) ∨ (SqT K H p ys ∧ Q (.ref p) H))
theorem callK_tuple {X : Cx} (h : X.K = K) : CallR X (.type "tuple") (rTup K) := by subst h; exact call_tuple_of
theorem callK_list {X : Cx} (h : X.K = K) : CallR X (.type "list") (rLst K) := by subst h; exact call_list_of
theorem opK_catA {X : Cx} (h : X.K = K) : OpR X (binaryOp .Add) (rCatA K) := by subst h; exact op_catA
theorem ixK_list {X : Cx} (h : X.K = K) : IxR X (rIxL K) := by subst h; exact ix_list
theorem ixK_tup {X : Cx} (h : X.K = K) : IxR X (rIxT K) := by subst h; exact ix_tup
theorem pe_fldK {X : Cx} {e : Expr} {f : Str} {pos : Pos} {ta : TE} (h : X.K = K) (he : PE X e ta) (hb : attributeBase e f X.env (eval e X.env) = eval e X.env) : PE X (.Attribute e f pos) (tFld K ta f) := by subst h; exact pe_fld he hb
theorem callK_len {X : Cx} (h : X.K = K) : CallR X (.builtin "len") (rLen K) := by subst h; exact call_len_seq
theorem ei_lenL {i : Nat} {p : Addr} (h : σ[i]? = some (some (.ref p))) (e : SqL K H p xs) : EI (tCB (rLen K) (tCons (tVar i) tNil)) σ H (.int (xs.length : Int)) := ei_cb (ea_cons (ei_var h) ea_nil) fun _ s _ q => ⟨p, xs, rfl, .inl (s.seq e), q⟩
theorem ei_lenT {i : Nat} {p : Addr} (h : σ[i]? = some (some (.ref p))) (e : SqT K H p xs) : EI (tCB (rLen K) (tCons (tVar i) tNil)) σ H (.int (xs.length : Int)) := ei_cb (ea_cons (ei_var h) ea_nil) fun _ s _ q => ⟨p, xs, rfl, .inr (sqt_same s e), q⟩
theorem ei_fld {i : Nat} {p C dx : Addr} {fs : List (Str × V)} {f : Str} (h : σ[i]? = some (some (.ref p))) (hp : H p = some (.ins C dx fs)) (c : Cls K C) (n : NoAttr K C f) (l : fs.lookup f = some v) : EI (tFld K (tVar i) f) σ H v := fun _ s _ q => ⟨.ref p, h, p, C, dx, fs, v, rfl, s _ _ hp, c, n, l, q⟩
theorem ei_din {td : TE} {d : Addr} {kvs : List (Key × V)} {k : Key} (hy : EI te σ H (kV k)) (hd : EI td σ H (.ref d)) (e : H d = some (.dK kvs)) : EI (tDIn te td) σ H (.bl (valV kvs k).isSome) := fun G s _ q => hy G s _ (hd G s _ ⟨d, _, rfl, DGet.k (s _ _ e), q⟩)
theorem ei_dnotin {td : TE} {d : Addr} {kvs : List (Key × V)} {k : Key} (hy : EI te σ H (kV k)) (hd : EI td σ H (.ref d)) (e : H d = some (.dK kvs)) : EI (tDNotIn te td) σ H (.bl (!(valV kvs k).isSome)) := fun G s _ q => hy G s _ (hd G s _ ⟨d, _, rfl, DGet.k (s _ _ e), q⟩)
theorem ei_dget {td : TE} {d : Addr} {kvs : List (Key × V)} {k : Key} (hy : EI te σ H (kV k)) (hd : EI td σ H (.ref d)) (e : H d = some (.dK kvs)) (hv : valV kvs k = some v) : EI (tDGet td te) σ H v := fun G s _ q => hd G s _ (hy G s _ ⟨d, v, rfl, by rw [← hv]; exact DGet.k (s _ _ e), q⟩)
theorem ei_ixL {p : Addr} {j : Int} (ha : EI ta σ H (.ref p)) (hi : EI tb σ H (.int j)) (e : SqL K H p xs) (h : atI xs j = some v) : EI (tOp (rIxL K) ta tb) σ H v := ei_op ha hi fun _ s _ q => ⟨p, xs, j, v, rfl, rfl, s.seq e, h, q⟩
theorem ei_ixT {p : Addr} {j : Int} (ha : EI ta σ H (.ref p)) (hi : EI tb σ H (.int j)) (e : SqT K H p xs) (h : atI xs j = some v) : EI (tOp (rIxT K) ta tb) σ H v := ei_op ha hi fun _ s _ q => ⟨p, xs, j, v, rfl, rfl, sqt_same s e, h, q⟩
theorem ei_eq (ha : EI ta σ H x) (hb : EI tb σ H y) (h : scal x y = true) : EI (tOp rEq ta tb) σ H (.bl (decide (x = y))) := ei_op ha hb fun _ _ _ q => ⟨h, q⟩
theorem ei_ne (ha : EI ta σ H x) (hb : EI tb σ H y) (h : scal x y = true) : EI (tOp rNe ta tb) σ H (.bl (!decide (x = y))) := ei_op ha hb fun _ _ _ q => ⟨h, q⟩
/-- a test by its value -/
theorem tt_use {b : Bool} {Q : Bool → Hp → Prop} (h : EI te σ H (.bl b)) (k : Q b H) : tTest te σ H Q := h H (Same.refl _) _ ⟨b, rfl, k⟩
theorem tb_use {b : Bool} {Q : Bool → Hp → Prop} (h : EI te σ H (.bl b)) (k : Q b H) : tB te σ H Q := h H (Same.refl _) _ ⟨b, rfl, k⟩
theorem el_var {i : Nat} {p : Addr} (h : σ[i]? = some (some (.ref p))) (e : H p = some (.lst xs)) : EL (tVar i) σ H xs := fun G s _ q => ⟨.ref p, h, q p G (Same.refl _) (s _ _ e)⟩
/-- a new list -/
def EN (te : TE) (σ : L2.St) (H : Hp) (xs : List V) : Prop := ∀ G, Same H G → ∀ Q : VK, (∀ p G', G p = none → Same G G' → G' p = some (.lst xs) → Q (.ref p) G') → te σ G Q
theorem EN.el (h : EN te σ H xs) : EL te σ H xs := fun G s Q q => h G s Q fun p G' _ => q p G'
theorem en_lst {tr : TA} {vs : List V} (ha : EA tr σ H vs) (hl : vs.length ≤ 90000) : EN (tLst tr) σ H vs := fun G s _ q => ha G s _ ⟨sz (by omega), fun p hp => q p _ hp (same_upd hp) upd_same⟩
theorem en_cat (ha : EL ta σ H xs) (hb : EL tb σ H ys) (hl : xs.length + ys.length ≤ 90000) : EN (tOp rCat ta tb) σ H (xs ++ ys) := fun G s _ q =>
  ha G s _ fun p G1 s1 e1 => hb G1 (s.trans s1) _ fun p2 G2 s2 e2 => ⟨p, p2, xs, ys, rfl, rfl, s2 _ _ e1, e2, sz (by omega), fun p3 h3 => q p3 _ ((s1.trans s2).free h3) ((s1.trans s2).trans (same_upd h3)) upd_same⟩
theorem en_rep {k : Int} (ha : EL ta σ H xs) (hb : EI tb σ H (.int k)) (h1 : -1000000 ≤ k) (h2 : k ≤ 1000000) (hl : xs.length * k.toNat ≤ 90000) : EN (tOp rRep ta tb) σ H (List.replicate k.toNat xs).flatten := fun G s _ q =>
  ha G s _ fun p G1 s1 e1 => hb G1 (s.trans s1) _ ⟨p, k, xs, rfl, rfl, e1, by omega, by omega, sz (by omega), fun p3 h3 => q p3 _ (s1.free h3) (s1.trans (same_upd h3)) upd_same⟩
theorem el_lst {tr : TA} {vs : List V} (ha : EA tr σ H vs) (hl : vs.length ≤ 90000) : EL (tLst tr) σ H vs := (en_lst ha hl).el
theorem el_cat (ha : EL ta σ H xs) (hb : EL tb σ H ys) (hl : xs.length + ys.length ≤ 90000) : EL (tOp rCat ta tb) σ H (xs ++ ys) := (en_cat ha hb hl).el
theorem el_rep {k : Int} (ha : EL ta σ H xs) (hb : EI tb σ H (.int k)) (h1 : -1000000 ≤ k) (h2 : k ≤ 1000000) (hl : xs.length * k.toNat ≤ 90000) : EL (tOp rRep ta tb) σ H (List.replicate k.toNat xs).flatten := (en_rep ha hb h1 h2 hl).el
theorem el_cb {r : List V → Hp → VK → Prop} {tr : TA} {vs : List V} (ha : EA tr σ H vs) (hr : ∀ G, Same H G → ∀ Q : VK, (∀ p G', Same G G' → G' p = some (.lst xs) → Q (.ref p) G') → r vs G Q) : EL (tCB r tr) σ H xs := fun G s Q q => ha G s _ (hr G s Q q)
theorem el_call {sp : Sp} {dvs : List V} {E : XK} {tr : TA} {vs : List V} (ha : EA tr σ H vs) (hr : ∀ G, Same H G → ∀ Q : VK, (∀ p G', Same G G' → G' p = some (.lst xs) → Q (.ref p) G') → sp (vs ++ dvs) G Q E) : EL (tCall sp dvs E tr) σ H xs := fun G s Q q => ha G s _ (hr G s Q q)
theorem el_listL {i : Nat} {p : Addr} (h : σ[i]? = some (some (.ref p))) (e : SqL K H p xs) : EL (tCB (rLst K) (tCons (tVar i) tNil)) σ H xs := el_cb (ea_cons (ei_var h) ea_nil) fun _ s _ q => ⟨p, xs, rfl, .inl (s.seq e), fun l hl => q l _ (same_upd hl) upd_same⟩
theorem el_listT {i : Nat} {p : Addr} (h : σ[i]? = some (some (.ref p))) (e : SqT K H p xs) : EL (tCB (rLst K) (tCons (tVar i) tNil)) σ H xs := el_cb (ea_cons (ei_var h) ea_nil) fun _ s _ q => ⟨p, xs, rfl, .inr (sqt_same s e), fun l hl => q l _ (same_upd hl) upd_same⟩
/-- x = an expression that gives a list -/
theorem EL.use {Q : VK} (h : EL te σ H xs) (k : ∀ p H', Same H H' → H' p = some (.lst xs) → Q (.ref p) H') : te σ H Q := h H (Same.refl _) Q k
theorem EN.use {Q : VK} (h : EN te σ H xs) (k : ∀ p H', H p = none → Same H H' → H' p = some (.lst xs) → Q (.ref p) H') : te σ H Q := h H (Same.refl _) Q k
theorem EI.use {Q : VK} (h : EI te σ H v) (k : Q v H) : te σ H Q := h H (Same.refl _) Q k
end
/-- defaults: what is bound where keywords give the rest -/
theorem kb_one {K : PySem.W.Frag} {x qual : Str} {params : Arguments} {body : List Stmt} {scope : Scope} {dvs : List V} {f : Addr} {fd : FuncData} {ps : List Str} (F : FunD K x qual params body scope dvs [] f fd) (n : Nat) (ks : List Str) (hd : dvs ≠ [])
    (h : ∀ (T : Addr) (kV doc pm : Value) (an : Option Addr) (cdv ct : Value) (us ws its : List Value), us.length = n → ws.length = ks.length → its.length = dvs.length →
      ∃ k, bindArgs (PySem.W.fnOf x qual params body scope (.ref T) kV doc pm an cdv ct) ⟨us, ks.zip ws⟩ = seqItems? (.ref T) >>= k ∧ k (some its.toArray) = pure (ps.zip (us ++ ws))) :
    KBn K fd ps n ks (fun us ws => us ++ ws) (fun vs zs => vs ++ zs) := by
  obtain ⟨oc, od, dV, kV, doc, pm, an, cdv, ct, osl, rfl, lk, hcd, hD, hK⟩ := F.ex
  rcases hD with ⟨e, _⟩ | ⟨_, T, o, its, m, rfl, lT, oT, rT⟩
  · exact absurd e hd
  · refine ⟨fun s us ws X h1 h2 => BindsTo.of_looks fun M => ?_, fun r1 r2 => r1.append r2⟩
    obtain ⟨k, e1, e2⟩ := h T kV doc pm an cdv ct us ws its h1 h2 rT.length.symm
    rw [e1]
    exact looks_items X lT oT (.of_pure e2)
theorem andV_use {ta tb : TE} {σ : L2.St} {H : Hp} {Q : VK} {x y : Bool} (h1 : EI ta σ H (.bl x)) (h2 : x = true → ∀ Q' : VK, (∀ H', Same H H' → Q' (.bl y) H') → tb σ H Q') (k : ∀ H', Same H H' → Q (.bl (x && y)) H') : tAndV ta tb σ H Q := by
  refine h1 H (Same.refl _) _ ⟨x, rfl, ?_⟩
  cases x with
  | true => exact (if_pos rfl).mpr (h2 rfl _ k)
  | false => exact (if_neg Bool.false_ne_true).mpr (k H (Same.refl _))
/-- what is locked and let go stands as it stood -/
theorem unlock {H H' : Hp} {d : Addr} {od : Obj} {u : HO} (e : H d = some u) (s : Same (upd H d (.frz od u)) H') : Same H (upd H' d u) := fun b o h => by
  by_cases hb : b = d
  · subst hb
    rw [upd_same, ← e]
    exact h
  · rw [upd_ne hb]
    exact s b o (by rw [upd_ne hb]; exact h)
theorem take_filter {α : Type} {l : List α} {i : Nat} {x : α} (f : α → Bool) (h : l[i]? = some x) : (l.take (i + 1)).filter f = (l.take i).filter f ++ if f x then [x] else [] := by
  rw [take_more h, List.filter_append]
  cases e : f x <;> simp [e]
/-- [e for k in d if t] over the keys of a dict, t and e change nothing -/
theorem lc_keys {td te : TE} {tt : TT} {s : Nat} {σ : L2.St} {H : Hp} {Q : VK} (d : Addr) (kvs : List (Key × V)) (f : Key → Bool) (g : Key → V) (e : H d = some (.dK kvs)) (hlen : kvs.length ≤ 90000)
    (htd : ∀ od, EI td σ (upd H d (.frz od (.dK kvs))) (.ref d))
    (hw : ∀ x, wipe ((wipe σ [s]).set s (some x)) [s] = wipe σ [s])
    (ht : ∀ (od : Obj) (i : Nat) (k : Key) (v : V) (G : Hp) (Q' : Bool → Hp → Prop), kvs[i]? = some (k, v) → Same (upd H d (.frz od (.dK kvs))) G → Q' (f k) G → tt ((wipe σ [s]).set s (some (kV k))) G Q')
    (he : ∀ (od : Obj) (i : Nat) (k : Key) (v : V) (G : Hp) (Q' : VK), kvs[i]? = some (k, v) → Same (upd H d (.frz od (.dK kvs))) G → Q' (g k) G → te ((wipe σ [s]).set s (some (kV k))) G Q')
    (k : ∀ D H', H D = none → Same H H' → H' D = some (.lst ((kvs.filter fun kv => f kv.1).map fun kv => g kv.1)) → Q (.ref D) H') : tLockE (tLc (iKeys td) (gName s) tt te [s]) σ H Q := by
  refine ⟨d, _, e, trivial, fun od => htd od _ (Same.refl _) _ ⟨d, od, rfl, .inl ⟨kvs, upd_same, fun D hD => ?_⟩⟩⟩
  have nD : D ≠ d := fun z => by rw [z, upd_same] at hD; cases hD
  have hD0 : H D = none := by rw [upd_ne nD] at hD; exact hD
  refine lc_it walk_keys (fun i G => Same (upd H d (.frz od (.dK kvs))) G ∧ G D = some (.lst (((kvs.take i).filter fun kv => f kv.1).map fun kv => g kv.1)))
    ⟨same_upd hD, upd_same⟩ (fun i G _ h => h.1 _ _ upd_same) (fun i x G G' hi hG hy => ?_) (fun G hG => ?_)
  · obtain ⟨rfl, key, v, hkv, rfl⟩ := hy
    have hfl : ((kvs.take i).filter fun kv => f kv.1).length ≤ 90000 := Nat.le_trans (List.length_filter_le _ _) (by rw [List.length_take]; omega)
    refine ⟨hw _, ht od i key v _ _ hkv hG.1 ?_⟩
    have hts := take_filter (fun kv : Key × V => f kv.1) hkv
    cases hf : f key with
    | true =>
      refine (if_pos rfl).mpr (he od i key v _ _ hkv hG.1 ⟨_, hG.2, szl (by rw [List.length_map]; omega), same_put hG.1 hD, ?_⟩)
      rw [upd_same, hts, List.map_append]
      simp only [hf, if_true]
      rfl
    | false =>
      refine (if_neg Bool.false_ne_true).mpr ⟨hG.1, ?_⟩
      rw [hts]
      simp only [hf, Bool.false_eq_true, if_false, List.append_nil]
      exact hG.2
  · rw [List.take_length] at hG
    refine ⟨hG.1 _ _ upd_same, k D _ hD0 (unlock e hG.1) ?_⟩
    rw [upd_ne nD]
    exact hG.2
theorem put_fresh {kvs : List (Key × V)} {k : Key} {v : V} (h : ∀ kv ∈ kvs, kv.1 ≠ k) : putK kvs k v = kvs ++ [(k, v)] := by
  unfold putK
  rw [if_neg]
  intro z
  obtain ⟨kv, hm, hk⟩ := List.any_eq_true.mp z
  exact h kv hm (of_decide_eq_true hk)
theorem nd_ne {α β : Type} {l : List (α × β)} {i : Nat} {x : α × β} (nd : (l.map (·.1)).Nodup) (h : l[i]? = some x) : ∀ y ∈ l.take i, y.1 ≠ x.1 := fun y hy z => by
  obtain ⟨j, hj, rfl⟩ := List.getElem_of_mem hy
  rw [List.length_take] at hj
  rw [List.getElem_take] at z
  obtain ⟨hi, rfl⟩ := List.getElem?_eq_some_iff.mp h
  have e1 : (l.map (·.1))[j]? = some l[i].1 := by rw [List.getElem?_map, List.getElem?_eq_getElem (by omega), ← z]; rfl
  have e2 : (l.map (·.1))[i]? = some l[i].1 := by rw [List.getElem?_map, List.getElem?_eq_getElem hi]; rfl
  have := nd_ix nd e1 e2
  omega
/-- {k: e for k in d if t} over the keys of a dict -/
theorem dc_keys {td tv : TE} {tt : TT} {s : Nat} {σ : L2.St} {H : Hp} {Q : VK} (d : Addr) (kvs : List (Key × V)) (f : Key → Bool) (g : Key × V → V) (e : H d = some (.dK kvs)) (hlen : kvs.length ≤ 90000) (nd : (kvs.map (·.1)).Nodup)
    (htd : ∀ od, EI td σ (upd H d (.frz od (.dK kvs))) (.ref d))
    (hw : ∀ x, wipe ((wipe σ [s]).set s (some x)) [s] = wipe σ [s])
    (ht : ∀ (od : Obj) (i : Nat) (k : Key) (v : V) (G : Hp) (Q' : Bool → Hp → Prop), kvs[i]? = some (k, v) → Same (upd H d (.frz od (.dK kvs))) G → Q' (f k) G → tt ((wipe σ [s]).set s (some (kV k))) G Q')
    (he : ∀ (od : Obj) (i : Nat) (k : Key) (v : V) (G : Hp) (Q' : VK), kvs[i]? = some (k, v) → f k = true → Same (upd H d (.frz od (.dK kvs))) G → Q' (g (k, v)) G → tv ((wipe σ [s]).set s (some (kV k))) G Q')
    (hn : ∀ i, (wipe σ [s]).length = i → s < i)
    (k : ∀ D H', H D = none → Same H H' → H' D = some (.dK ((kvs.filter fun kv => f kv.1).map fun kv => (kv.1, g kv))) → Q (.ref D) H') : tLockE (tDc (iKeys td) (gName s) tt (tVar s) tv [s]) σ H Q := by
  have hs : s < (wipe σ [s]).length := hn _ rfl
  refine ⟨d, _, e, trivial, fun od => htd od _ (Same.refl _) _ ⟨d, od, rfl, .inl ⟨kvs, upd_same, fun D hD => ?_⟩⟩⟩
  have nD : D ≠ d := fun z => by rw [z, upd_same] at hD; cases hD
  have hD0 : H D = none := by rw [upd_ne nD] at hD; exact hD
  let Pv : Nat → Hp → Prop := fun i G => Same (upd H d (.frz od (.dK kvs))) G ∧ G D = some (.dK (((kvs.take i).filter fun kv => f kv.1).map fun kv => (kv.1, g kv)))
  have step : ∀ i x G G', i < kvs.length → Pv i G → (G' = G ∧ ∃ k v, kvs[i]? = some (k, v) ∧ x = kV k) → gName s x (wipe σ [s]) G' fun σ2 H2 => wipe σ2 [s] = wipe σ [s] ∧ tt σ2 H2 fun b H3 =>
      if b = true then tVar s σ2 H3 fun y H4 => tv σ2 H4 fun z H5 => ∃ kvs' k', y = kV k' ∧ H5 D = some (.dK kvs') ∧ kvs'.length < sizeLine ∧ Pv (i + 1) (upd H5 D (.dK (putK kvs' k' z))) else Pv (i + 1) H3 := fun i x G G' hi hG hy => by
    obtain ⟨rfl, key, v, hkv, rfl⟩ := hy
    have hfl : ((kvs.take i).filter fun kv => f kv.1).length ≤ 90000 := Nat.le_trans (List.length_filter_le _ _) (by rw [List.length_take]; omega)
    refine ⟨hw _, ht od i key v _ _ hkv hG.1 ?_⟩
    have hts := take_filter (fun kv : Key × V => f kv.1) hkv
    cases hf : f key with
    | true =>
      refine (if_pos rfl).mpr ⟨kV key, by rw [List.getElem?_set_self hs], he od i key v _ _ hkv hf hG.1 ⟨_, key, rfl, hG.2, szl (by rw [List.length_map]; omega), same_put hG.1 hD, ?_⟩⟩
      rw [upd_same, hts, List.map_append, put_fresh]
      · simp only [hf, if_true]
        rfl
      · intro kv hm
        obtain ⟨y, hy, rfl⟩ := List.mem_map.mp hm
        exact nd_ne nd hkv y (List.mem_filter.mp hy).1
    | false =>
      refine (if_neg Bool.false_ne_true).mpr ⟨hG.1, ?_⟩
      rw [hts]
      simp only [hf, Bool.false_eq_true, if_false, List.append_nil]
      exact hG.2
  refine ⟨fun i m G => m = kvs.length - i ∧ i ≤ kvs.length ∧ Pv i G, ⟨kvs.length, by simp, Nat.zero_le _, same_upd hD, upd_same⟩, ?_⟩
  rintro i m G ⟨rfl, hi, hP⟩
  by_cases hlt : i < kvs.length
  · exact .inr ⟨⟨hP.1 _ _ upd_same, hlt⟩, Pv (i + 1), fun G' p' => ⟨kvs.length - (i + 1), by omega, rfl, hlt, p'⟩, fun x G' y => step i x G G' hlt hP y⟩
  · have ei : i = kvs.length := by omega
    subst ei
    obtain ⟨h1, h2⟩ := hP
    rw [List.take_length] at h2
    refine .inl ⟨⟨h1 _ _ upd_same, Nat.le_refl _⟩, h1 _ _ upd_same, k D _ hD0 (unlock e h1) ?_⟩
    rw [upd_ne nD]
    exact h2
/-! the same within a comprehension -/
section
variable {K : PySem.W.Frag} {X : Cx} {pos : Pos}
theorem pgK_tup {es : List Expr} {k : Nat} {t : TGs} {n : Nat} (hK : X.K = K) (hc : X.calm = true) (h : PGs X es t)
    (hn : (assignEach es X.env).length = n := by rfl) (hst : (assignEach es X.env).findIdx? (·.1) = none := by rfl) : PG X (.Tuple es k pos) (gTup K n t) := by subst hK; exact pg_tup hc h hn hst
theorem opK_in (h : X.K = K) : OpR X (compareOp .In) (rIn K false) := by subst h; exact op_in_seq
theorem opK_notIn (h : X.K = K) : OpR X (compareOp .NotIn) (rIn K true) := by subst h; exact op_notIn_seq
theorem opK_eqD (h : X.K = K) (hu : X.A.units + 64 < cLine) : OpR X (compareOp .Eq) (rEqD K) := by subst h; exact op_eqD hu
theorem opK_neD (h : X.K = K) (hu : X.A.units + 64 < cLine) : OpR X (compareOp .NotEq) (rNeD K) := by subst h; exact op_neD hu
theorem callK_isi (h : X.K = K) : CallR X (.builtin "isinstance") (rIsi K) := by subst h; exact call_isi
theorem slK_tup (h : X.K = K) : SlR X (rSlT K) := by subst h; exact sl_tup
end
end My
local macro_rules | `(tactic| walk_at "go") => `(tactic| try dsimp only [L2.gName, L2.tSeq, L2.tAsg, L2.tNext, L2.tDrop])
namespace My
open PySem PySem.Spec PyProof.Rows L2
def topS (i : Nat) : Stmt := PySem.Challenge.pw_majordomo_k45_work_queue_loses_nothing.main.body.getD i (.Pass ⟨0, 0, 0, 0⟩)
abbrev s_WorkQueue___init__ : Stmt := (inClass (topS 5) 0)
theorem sc_WorkQueue___init__ : FnScope ["self", "most"] ["self", "most"] (defScope s_WorkQueue___init__) := ⟨rfl, rfl, rfl, by decide +kernel, rfl, by decide +kernel, by decide +kernel⟩
abbrev s_WorkQueue_add : Stmt := (inClass (topS 5) 1)
theorem sc_WorkQueue_add : FnScope ["self", "key"] ["self", "key"] (defScope s_WorkQueue_add) := ⟨rfl, rfl, rfl, by decide +kernel, rfl, by decide +kernel, by decide +kernel⟩
abbrev s_WorkQueue_add_later : Stmt := (inClass (topS 5) 2)
theorem sc_WorkQueue_add_later : FnScope ["self", "key", "ticks"] ["self", "key", "ticks"] (defScope s_WorkQueue_add_later) := ⟨rfl, rfl, rfl, by decide +kernel, rfl, by decide +kernel, by decide +kernel⟩
abbrev s_WorkQueue_tick : Stmt := (inClass (topS 5) 3)
theorem sc_WorkQueue_tick : FnScope ["self", "ended", "key"] ["self"] (defScope s_WorkQueue_tick) := ⟨rfl, rfl, rfl, by decide +kernel, rfl, by decide +kernel, by decide +kernel⟩
abbrev s_WorkQueue_take : Stmt := (inClass (topS 5) 4)
theorem sc_WorkQueue_take : FnScope ["self", "key"] ["self"] (defScope s_WorkQueue_take) := ⟨rfl, rfl, rfl, by decide +kernel, rfl, by decide +kernel, by decide +kernel⟩
abbrev s_WorkQueue_finish : Stmt := (inClass (topS 5) 5)
theorem sc_WorkQueue_finish : FnScope ["self", "key", "comes_again"] ["self", "key"] (defScope s_WorkQueue_finish) := ⟨rfl, rfl, rfl, by decide +kernel, rfl, by decide +kernel, by decide +kernel⟩
abbrev s_WorkQueue_fail : Stmt := (inClass (topS 5) 6)
theorem sc_WorkQueue_fail : FnScope ["self", "key", "comes_again"] ["self", "key"] (defScope s_WorkQueue_fail) := ⟨rfl, rfl, rfl, by decide +kernel, rfl, by decide +kernel, by decide +kernel⟩
abbrev s_WorkQueue__leave : Stmt := (inClass (topS 5) 7)
theorem sc_WorkQueue__leave : FnScope ["self", "key"] ["self", "key"] (defScope s_WorkQueue__leave) := ⟨rfl, rfl, rfl, by decide +kernel, rfl, by decide +kernel, by decide +kernel⟩
abbrev s_WorkQueue__delay : Stmt := (inClass (topS 5) 8)
theorem sc_WorkQueue__delay : FnScope ["self", "key", "delay", "failures"] ["self", "key"] (defScope s_WorkQueue__delay) := ⟨rfl, rfl, rfl, by decide +kernel, rfl, by decide +kernel, by decide +kernel⟩
abbrev s_WorkQueue_waiting : Stmt := (inClass (topS 5) 9)
theorem sc_WorkQueue_waiting : FnScope ["self"] ["self"] (defScope s_WorkQueue_waiting) := ⟨rfl, rfl, rfl, by decide +kernel, rfl, by decide +kernel, by decide +kernel⟩
abbrev s_WorkQueue_in_work : Stmt := (inClass (topS 5) 10)
theorem sc_WorkQueue_in_work : FnScope ["self"] ["self"] (defScope s_WorkQueue_in_work) := ⟨rfl, rfl, rfl, by decide +kernel, rfl, by decide +kernel, by decide +kernel⟩
abbrev s_WorkQueue_delayed : Stmt := (inClass (topS 5) 11)
theorem sc_WorkQueue_delayed : FnScope ["self", "key"] ["self"] (defScope s_WorkQueue_delayed) := ⟨rfl, rfl, rfl, by decide +kernel, rfl, by decide +kernel, by decide +kernel⟩
abbrev s_WorkQueue_failures : Stmt := (inClass (topS 5) 12)
theorem sc_WorkQueue_failures : FnScope ["self", "key"] ["self", "key"] (defScope s_WorkQueue_failures) := ⟨rfl, rfl, rfl, by decide +kernel, rfl, by decide +kernel, by decide +kernel⟩
abbrev s__law_mix : Stmt := (topS 7)
theorem sc__law_mix : FnScope ["cell", "k", "low"] ["cell", "k"] (defScope s__law_mix) := ⟨rfl, rfl, rfl, by decide +kernel, rfl, by decide +kernel, by decide +kernel⟩
abbrev s__law_row : Stmt := (topS 8)
theorem sc__law_row : FnScope ["script", "most", "row", "k", "rest", "j"] ["script", "most"] (defScope s__law_row) := ⟨rfl, rfl, rfl, by decide +kernel, rfl, by decide +kernel, by decide +kernel⟩
abbrev s__law_key : Stmt := (topS 9)
theorem sc__law_key : FnScope ["number"] ["number"] (defScope s__law_key) := ⟨rfl, rfl, rfl, by decide +kernel, rfl, by decide +kernel, by decide +kernel⟩
abbrev s__law_take : Stmt := (topS 10)
theorem sc__law_take : FnScope ["queue", "work", "owed", "key"] ["queue", "work", "owed"] (defScope s__law_take) := ⟨rfl, rfl, rfl, by decide +kernel, rfl, by decide +kernel, by decide +kernel⟩
abbrev s__law_owe : Stmt := (topS 11)
theorem sc__law_owe : FnScope ["owed", "key"] ["owed", "key"] (defScope s__law_owe) := ⟨rfl, rfl, rfl, by decide +kernel, rfl, by decide +kernel, by decide +kernel⟩
abbrev s__law_deed : Stmt := (topS 12)
theorem sc__law_deed : FnScope ["queue", "work", "owed", "number", "key", "deed", "place"] ["queue", "work", "owed", "number"] (defScope s__law_deed) := ⟨rfl, rfl, rfl, by decide +kernel, rfl, by decide +kernel, by decide +kernel⟩
abbrev s__law_drain : Stmt := (topS 13)
theorem sc__law_drain : FnScope ["queue", "owed", "k", "j"] ["queue", "owed"] (defScope s__law_drain) := ⟨rfl, rfl, rfl, by decide +kernel, rfl, by decide +kernel, by decide +kernel⟩
abbrev s_law : Stmt := (topS 14)
theorem sc_law : FnScope ["script", "queue", "work", "owed", "number", "key"] ["script"] (defScope s_law) := ⟨rfl, rfl, rfl, by decide +kernel, rfl, by decide +kernel, by decide +kernel⟩

structure TX (K : PySem.W.Frag) (mg : Str → Option Value) where
  a_WorkQueue : Addr
  a_WorkQueue___init__ : Addr
  d_WorkQueue___init__ : FuncData
  FD_WorkQueue___init__ : FunD K "__init__" "WorkQueue.__init__" (defArgs s_WorkQueue___init__) (defBody s_WorkQueue___init__) (defScope s_WorkQueue___init__) [] [("most", .int 8)] a_WorkQueue___init__ d_WorkQueue___init__
  bD_WorkQueue___init__ : ∃ ds, Vals (([.int 8] : List V)) ds ∧ Binds K d_WorkQueue___init__ ["self", "most"] ds
  kb_WorkQueue___init__ : ∃ mv : List Value, KBn K d_WorkQueue___init__ ["self", "most"] 1 ["most"] (fun us ws => us ++ (mv ++ ws)) (fun vs zs => vs ++ ([] ++ zs))
  a_WorkQueue_add : Addr
  d_WorkQueue_add : FuncData
  F_WorkQueue_add : Fun K "add" "WorkQueue.add" s_WorkQueue_add a_WorkQueue_add d_WorkQueue_add
  b_WorkQueue_add : Binds K d_WorkQueue_add ["self", "key"] []
  m_WorkQueue_add : Meth K a_WorkQueue "add" a_WorkQueue_add
  a_WorkQueue_add_later : Addr
  d_WorkQueue_add_later : FuncData
  F_WorkQueue_add_later : Fun K "add_later" "WorkQueue.add_later" s_WorkQueue_add_later a_WorkQueue_add_later d_WorkQueue_add_later
  b_WorkQueue_add_later : Binds K d_WorkQueue_add_later ["self", "key", "ticks"] []
  m_WorkQueue_add_later : Meth K a_WorkQueue "add_later" a_WorkQueue_add_later
  a_WorkQueue_tick : Addr
  d_WorkQueue_tick : FuncData
  F_WorkQueue_tick : Fun K "tick" "WorkQueue.tick" s_WorkQueue_tick a_WorkQueue_tick d_WorkQueue_tick
  b_WorkQueue_tick : Binds K d_WorkQueue_tick ["self"] []
  m_WorkQueue_tick : Meth K a_WorkQueue "tick" a_WorkQueue_tick
  a_WorkQueue_take : Addr
  d_WorkQueue_take : FuncData
  F_WorkQueue_take : Fun K "take" "WorkQueue.take" s_WorkQueue_take a_WorkQueue_take d_WorkQueue_take
  b_WorkQueue_take : Binds K d_WorkQueue_take ["self"] []
  m_WorkQueue_take : Meth K a_WorkQueue "take" a_WorkQueue_take
  a_WorkQueue_finish : Addr
  d_WorkQueue_finish : FuncData
  F_WorkQueue_finish : Fun K "finish" "WorkQueue.finish" s_WorkQueue_finish a_WorkQueue_finish d_WorkQueue_finish
  b_WorkQueue_finish : Binds K d_WorkQueue_finish ["self", "key"] []
  m_WorkQueue_finish : Meth K a_WorkQueue "finish" a_WorkQueue_finish
  a_WorkQueue_fail : Addr
  d_WorkQueue_fail : FuncData
  F_WorkQueue_fail : Fun K "fail" "WorkQueue.fail" s_WorkQueue_fail a_WorkQueue_fail d_WorkQueue_fail
  b_WorkQueue_fail : Binds K d_WorkQueue_fail ["self", "key"] []
  m_WorkQueue_fail : Meth K a_WorkQueue "fail" a_WorkQueue_fail
  a_WorkQueue__leave : Addr
  d_WorkQueue__leave : FuncData
  F_WorkQueue__leave : Fun K "_leave" "WorkQueue._leave" s_WorkQueue__leave a_WorkQueue__leave d_WorkQueue__leave
  b_WorkQueue__leave : Binds K d_WorkQueue__leave ["self", "key"] []
  m_WorkQueue__leave : Meth K a_WorkQueue "_leave" a_WorkQueue__leave
  a_WorkQueue__delay : Addr
  d_WorkQueue__delay : FuncData
  F_WorkQueue__delay : Fun K "_delay" "WorkQueue._delay" s_WorkQueue__delay a_WorkQueue__delay d_WorkQueue__delay
  b_WorkQueue__delay : Binds K d_WorkQueue__delay ["self", "key"] []
  m_WorkQueue__delay : Meth K a_WorkQueue "_delay" a_WorkQueue__delay
  a_WorkQueue_waiting : Addr
  d_WorkQueue_waiting : FuncData
  F_WorkQueue_waiting : Fun K "waiting" "WorkQueue.waiting" s_WorkQueue_waiting a_WorkQueue_waiting d_WorkQueue_waiting
  b_WorkQueue_waiting : Binds K d_WorkQueue_waiting ["self"] []
  m_WorkQueue_waiting : Meth K a_WorkQueue "waiting" a_WorkQueue_waiting
  a_WorkQueue_in_work : Addr
  d_WorkQueue_in_work : FuncData
  F_WorkQueue_in_work : Fun K "in_work" "WorkQueue.in_work" s_WorkQueue_in_work a_WorkQueue_in_work d_WorkQueue_in_work
  b_WorkQueue_in_work : Binds K d_WorkQueue_in_work ["self"] []
  m_WorkQueue_in_work : Meth K a_WorkQueue "in_work" a_WorkQueue_in_work
  a_WorkQueue_delayed : Addr
  d_WorkQueue_delayed : FuncData
  F_WorkQueue_delayed : Fun K "delayed" "WorkQueue.delayed" s_WorkQueue_delayed a_WorkQueue_delayed d_WorkQueue_delayed
  b_WorkQueue_delayed : Binds K d_WorkQueue_delayed ["self"] []
  m_WorkQueue_delayed : Meth K a_WorkQueue "delayed" a_WorkQueue_delayed
  a_WorkQueue_failures : Addr
  d_WorkQueue_failures : FuncData
  F_WorkQueue_failures : Fun K "failures" "WorkQueue.failures" s_WorkQueue_failures a_WorkQueue_failures d_WorkQueue_failures
  b_WorkQueue_failures : Binds K d_WorkQueue_failures ["self", "key"] []
  m_WorkQueue_failures : Meth K a_WorkQueue "failures" a_WorkQueue_failures
  a__law_mix : Addr
  d__law_mix : FuncData
  F__law_mix : Fun K "_law_mix" "_law_mix" s__law_mix a__law_mix d__law_mix
  b__law_mix : Binds K d__law_mix ["cell", "k"] []
  g__law_mix : mg "_law_mix" = some (.ref a__law_mix)
  a__law_row : Addr
  d__law_row : FuncData
  F__law_row : Fun K "_law_row" "_law_row" s__law_row a__law_row d__law_row
  b__law_row : Binds K d__law_row ["script", "most"] []
  g__law_row : mg "_law_row" = some (.ref a__law_row)
  a__law_key : Addr
  d__law_key : FuncData
  F__law_key : Fun K "_law_key" "_law_key" s__law_key a__law_key d__law_key
  b__law_key : Binds K d__law_key ["number"] []
  g__law_key : mg "_law_key" = some (.ref a__law_key)
  a__law_take : Addr
  d__law_take : FuncData
  F__law_take : Fun K "_law_take" "_law_take" s__law_take a__law_take d__law_take
  b__law_take : Binds K d__law_take ["queue", "work", "owed"] []
  g__law_take : mg "_law_take" = some (.ref a__law_take)
  a__law_owe : Addr
  d__law_owe : FuncData
  F__law_owe : Fun K "_law_owe" "_law_owe" s__law_owe a__law_owe d__law_owe
  b__law_owe : Binds K d__law_owe ["owed", "key"] []
  g__law_owe : mg "_law_owe" = some (.ref a__law_owe)
  a__law_deed : Addr
  d__law_deed : FuncData
  F__law_deed : Fun K "_law_deed" "_law_deed" s__law_deed a__law_deed d__law_deed
  b__law_deed : Binds K d__law_deed ["queue", "work", "owed", "number"] []
  g__law_deed : mg "_law_deed" = some (.ref a__law_deed)
  a__law_drain : Addr
  d__law_drain : FuncData
  F__law_drain : Fun K "_law_drain" "_law_drain" s__law_drain a__law_drain d__law_drain
  b__law_drain : Binds K d__law_drain ["queue", "owed"] []
  g__law_drain : mg "_law_drain" = some (.ref a__law_drain)
  a_law : Addr
  d_law : FuncData
  F_law : Fun K "law" "law" s_law a_law d_law
  b_law : Binds K d_law ["script"] []
  g_law : mg "law" = some (.ref a_law)
  K_WorkQueue : Cls K a_WorkQueue
  g_WorkQueue : mg "WorkQueue" = some (.ref a_WorkQueue)
  M_WorkQueue : Mk K a_WorkQueue a_WorkQueue___init__
  na_WorkQueue__most : NoAttr K a_WorkQueue "_most"
  na_WorkQueue__waiting : NoAttr K a_WorkQueue "_waiting"
  na_WorkQueue__working : NoAttr K a_WorkQueue "_working"
  na_WorkQueue__ticks : NoAttr K a_WorkQueue "_ticks"
  na_WorkQueue__failures : NoAttr K a_WorkQueue "_failures"
  n_list : mg "list" = none
  n_sorted : mg "sorted" = none
  n_min : mg "min" = none
  n_int : mg "int" = none
  n_range : mg "range" = none
  n_len : mg "len" = none

theorem ne_WorkQueue__most__waiting : (Str.ofString "_most" == Str.ofString "_waiting") = false := by decide +kernel
theorem ne_WorkQueue__most__waiting_p : ¬ (Str.ofString "_most" = Str.ofString "_waiting") := by decide +kernel
theorem ne_WorkQueue__most__working : (Str.ofString "_most" == Str.ofString "_working") = false := by decide +kernel
theorem ne_WorkQueue__most__working_p : ¬ (Str.ofString "_most" = Str.ofString "_working") := by decide +kernel
theorem ne_WorkQueue__most__ticks : (Str.ofString "_most" == Str.ofString "_ticks") = false := by decide +kernel
theorem ne_WorkQueue__most__ticks_p : ¬ (Str.ofString "_most" = Str.ofString "_ticks") := by decide +kernel
theorem ne_WorkQueue__most__failures : (Str.ofString "_most" == Str.ofString "_failures") = false := by decide +kernel
theorem ne_WorkQueue__most__failures_p : ¬ (Str.ofString "_most" = Str.ofString "_failures") := by decide +kernel
theorem ne_WorkQueue__waiting__most : (Str.ofString "_waiting" == Str.ofString "_most") = false := by decide +kernel
theorem ne_WorkQueue__waiting__most_p : ¬ (Str.ofString "_waiting" = Str.ofString "_most") := by decide +kernel
theorem ne_WorkQueue__waiting__working : (Str.ofString "_waiting" == Str.ofString "_working") = false := by decide +kernel
theorem ne_WorkQueue__waiting__working_p : ¬ (Str.ofString "_waiting" = Str.ofString "_working") := by decide +kernel
theorem ne_WorkQueue__waiting__ticks : (Str.ofString "_waiting" == Str.ofString "_ticks") = false := by decide +kernel
theorem ne_WorkQueue__waiting__ticks_p : ¬ (Str.ofString "_waiting" = Str.ofString "_ticks") := by decide +kernel
theorem ne_WorkQueue__waiting__failures : (Str.ofString "_waiting" == Str.ofString "_failures") = false := by decide +kernel
theorem ne_WorkQueue__waiting__failures_p : ¬ (Str.ofString "_waiting" = Str.ofString "_failures") := by decide +kernel
theorem ne_WorkQueue__working__most : (Str.ofString "_working" == Str.ofString "_most") = false := by decide +kernel
theorem ne_WorkQueue__working__most_p : ¬ (Str.ofString "_working" = Str.ofString "_most") := by decide +kernel
theorem ne_WorkQueue__working__waiting : (Str.ofString "_working" == Str.ofString "_waiting") = false := by decide +kernel
theorem ne_WorkQueue__working__waiting_p : ¬ (Str.ofString "_working" = Str.ofString "_waiting") := by decide +kernel
theorem ne_WorkQueue__working__ticks : (Str.ofString "_working" == Str.ofString "_ticks") = false := by decide +kernel
theorem ne_WorkQueue__working__ticks_p : ¬ (Str.ofString "_working" = Str.ofString "_ticks") := by decide +kernel
theorem ne_WorkQueue__working__failures : (Str.ofString "_working" == Str.ofString "_failures") = false := by decide +kernel
theorem ne_WorkQueue__working__failures_p : ¬ (Str.ofString "_working" = Str.ofString "_failures") := by decide +kernel
theorem ne_WorkQueue__ticks__most : (Str.ofString "_ticks" == Str.ofString "_most") = false := by decide +kernel
theorem ne_WorkQueue__ticks__most_p : ¬ (Str.ofString "_ticks" = Str.ofString "_most") := by decide +kernel
theorem ne_WorkQueue__ticks__waiting : (Str.ofString "_ticks" == Str.ofString "_waiting") = false := by decide +kernel
theorem ne_WorkQueue__ticks__waiting_p : ¬ (Str.ofString "_ticks" = Str.ofString "_waiting") := by decide +kernel
theorem ne_WorkQueue__ticks__working : (Str.ofString "_ticks" == Str.ofString "_working") = false := by decide +kernel
theorem ne_WorkQueue__ticks__working_p : ¬ (Str.ofString "_ticks" = Str.ofString "_working") := by decide +kernel
theorem ne_WorkQueue__ticks__failures : (Str.ofString "_ticks" == Str.ofString "_failures") = false := by decide +kernel
theorem ne_WorkQueue__ticks__failures_p : ¬ (Str.ofString "_ticks" = Str.ofString "_failures") := by decide +kernel
theorem ne_WorkQueue__failures__most : (Str.ofString "_failures" == Str.ofString "_most") = false := by decide +kernel
theorem ne_WorkQueue__failures__most_p : ¬ (Str.ofString "_failures" = Str.ofString "_most") := by decide +kernel
theorem ne_WorkQueue__failures__waiting : (Str.ofString "_failures" == Str.ofString "_waiting") = false := by decide +kernel
theorem ne_WorkQueue__failures__waiting_p : ¬ (Str.ofString "_failures" = Str.ofString "_waiting") := by decide +kernel
theorem ne_WorkQueue__failures__working : (Str.ofString "_failures" == Str.ofString "_working") = false := by decide +kernel
theorem ne_WorkQueue__failures__working_p : ¬ (Str.ofString "_failures" = Str.ofString "_working") := by decide +kernel
theorem ne_WorkQueue__failures__ticks : (Str.ofString "_failures" == Str.ofString "_ticks") = false := by decide +kernel
theorem ne_WorkQueue__failures__ticks_p : ¬ (Str.ofString "_failures" = Str.ofString "_ticks") := by decide +kernel
theorem ne_WorkQueue_add__most : (Str.ofString "add" == Str.ofString "_most") = false := by decide +kernel
theorem ne_WorkQueue_add__most_p : ¬ (Str.ofString "add" = Str.ofString "_most") := by decide +kernel
theorem ne_WorkQueue_add__waiting : (Str.ofString "add" == Str.ofString "_waiting") = false := by decide +kernel
theorem ne_WorkQueue_add__waiting_p : ¬ (Str.ofString "add" = Str.ofString "_waiting") := by decide +kernel
theorem ne_WorkQueue_add__working : (Str.ofString "add" == Str.ofString "_working") = false := by decide +kernel
theorem ne_WorkQueue_add__working_p : ¬ (Str.ofString "add" = Str.ofString "_working") := by decide +kernel
theorem ne_WorkQueue_add__ticks : (Str.ofString "add" == Str.ofString "_ticks") = false := by decide +kernel
theorem ne_WorkQueue_add__ticks_p : ¬ (Str.ofString "add" = Str.ofString "_ticks") := by decide +kernel
theorem ne_WorkQueue_add__failures : (Str.ofString "add" == Str.ofString "_failures") = false := by decide +kernel
theorem ne_WorkQueue_add__failures_p : ¬ (Str.ofString "add" = Str.ofString "_failures") := by decide +kernel
theorem ne_WorkQueue_add_later__most : (Str.ofString "add_later" == Str.ofString "_most") = false := by decide +kernel
theorem ne_WorkQueue_add_later__most_p : ¬ (Str.ofString "add_later" = Str.ofString "_most") := by decide +kernel
theorem ne_WorkQueue_add_later__waiting : (Str.ofString "add_later" == Str.ofString "_waiting") = false := by decide +kernel
theorem ne_WorkQueue_add_later__waiting_p : ¬ (Str.ofString "add_later" = Str.ofString "_waiting") := by decide +kernel
theorem ne_WorkQueue_add_later__working : (Str.ofString "add_later" == Str.ofString "_working") = false := by decide +kernel
theorem ne_WorkQueue_add_later__working_p : ¬ (Str.ofString "add_later" = Str.ofString "_working") := by decide +kernel
theorem ne_WorkQueue_add_later__ticks : (Str.ofString "add_later" == Str.ofString "_ticks") = false := by decide +kernel
theorem ne_WorkQueue_add_later__ticks_p : ¬ (Str.ofString "add_later" = Str.ofString "_ticks") := by decide +kernel
theorem ne_WorkQueue_add_later__failures : (Str.ofString "add_later" == Str.ofString "_failures") = false := by decide +kernel
theorem ne_WorkQueue_add_later__failures_p : ¬ (Str.ofString "add_later" = Str.ofString "_failures") := by decide +kernel
theorem ne_WorkQueue_tick__most : (Str.ofString "tick" == Str.ofString "_most") = false := by decide +kernel
theorem ne_WorkQueue_tick__most_p : ¬ (Str.ofString "tick" = Str.ofString "_most") := by decide +kernel
theorem ne_WorkQueue_tick__waiting : (Str.ofString "tick" == Str.ofString "_waiting") = false := by decide +kernel
theorem ne_WorkQueue_tick__waiting_p : ¬ (Str.ofString "tick" = Str.ofString "_waiting") := by decide +kernel
theorem ne_WorkQueue_tick__working : (Str.ofString "tick" == Str.ofString "_working") = false := by decide +kernel
theorem ne_WorkQueue_tick__working_p : ¬ (Str.ofString "tick" = Str.ofString "_working") := by decide +kernel
theorem ne_WorkQueue_tick__ticks : (Str.ofString "tick" == Str.ofString "_ticks") = false := by decide +kernel
theorem ne_WorkQueue_tick__ticks_p : ¬ (Str.ofString "tick" = Str.ofString "_ticks") := by decide +kernel
theorem ne_WorkQueue_tick__failures : (Str.ofString "tick" == Str.ofString "_failures") = false := by decide +kernel
theorem ne_WorkQueue_tick__failures_p : ¬ (Str.ofString "tick" = Str.ofString "_failures") := by decide +kernel
theorem ne_WorkQueue_take__most : (Str.ofString "take" == Str.ofString "_most") = false := by decide +kernel
theorem ne_WorkQueue_take__most_p : ¬ (Str.ofString "take" = Str.ofString "_most") := by decide +kernel
theorem ne_WorkQueue_take__waiting : (Str.ofString "take" == Str.ofString "_waiting") = false := by decide +kernel
theorem ne_WorkQueue_take__waiting_p : ¬ (Str.ofString "take" = Str.ofString "_waiting") := by decide +kernel
theorem ne_WorkQueue_take__working : (Str.ofString "take" == Str.ofString "_working") = false := by decide +kernel
theorem ne_WorkQueue_take__working_p : ¬ (Str.ofString "take" = Str.ofString "_working") := by decide +kernel
theorem ne_WorkQueue_take__ticks : (Str.ofString "take" == Str.ofString "_ticks") = false := by decide +kernel
theorem ne_WorkQueue_take__ticks_p : ¬ (Str.ofString "take" = Str.ofString "_ticks") := by decide +kernel
theorem ne_WorkQueue_take__failures : (Str.ofString "take" == Str.ofString "_failures") = false := by decide +kernel
theorem ne_WorkQueue_take__failures_p : ¬ (Str.ofString "take" = Str.ofString "_failures") := by decide +kernel
theorem ne_WorkQueue_finish__most : (Str.ofString "finish" == Str.ofString "_most") = false := by decide +kernel
theorem ne_WorkQueue_finish__most_p : ¬ (Str.ofString "finish" = Str.ofString "_most") := by decide +kernel
theorem ne_WorkQueue_finish__waiting : (Str.ofString "finish" == Str.ofString "_waiting") = false := by decide +kernel
theorem ne_WorkQueue_finish__waiting_p : ¬ (Str.ofString "finish" = Str.ofString "_waiting") := by decide +kernel
theorem ne_WorkQueue_finish__working : (Str.ofString "finish" == Str.ofString "_working") = false := by decide +kernel
theorem ne_WorkQueue_finish__working_p : ¬ (Str.ofString "finish" = Str.ofString "_working") := by decide +kernel
theorem ne_WorkQueue_finish__ticks : (Str.ofString "finish" == Str.ofString "_ticks") = false := by decide +kernel
theorem ne_WorkQueue_finish__ticks_p : ¬ (Str.ofString "finish" = Str.ofString "_ticks") := by decide +kernel
theorem ne_WorkQueue_finish__failures : (Str.ofString "finish" == Str.ofString "_failures") = false := by decide +kernel
theorem ne_WorkQueue_finish__failures_p : ¬ (Str.ofString "finish" = Str.ofString "_failures") := by decide +kernel
theorem ne_WorkQueue_fail__most : (Str.ofString "fail" == Str.ofString "_most") = false := by decide +kernel
theorem ne_WorkQueue_fail__most_p : ¬ (Str.ofString "fail" = Str.ofString "_most") := by decide +kernel
theorem ne_WorkQueue_fail__waiting : (Str.ofString "fail" == Str.ofString "_waiting") = false := by decide +kernel
theorem ne_WorkQueue_fail__waiting_p : ¬ (Str.ofString "fail" = Str.ofString "_waiting") := by decide +kernel
theorem ne_WorkQueue_fail__working : (Str.ofString "fail" == Str.ofString "_working") = false := by decide +kernel
theorem ne_WorkQueue_fail__working_p : ¬ (Str.ofString "fail" = Str.ofString "_working") := by decide +kernel
theorem ne_WorkQueue_fail__ticks : (Str.ofString "fail" == Str.ofString "_ticks") = false := by decide +kernel
theorem ne_WorkQueue_fail__ticks_p : ¬ (Str.ofString "fail" = Str.ofString "_ticks") := by decide +kernel
theorem ne_WorkQueue_fail__failures : (Str.ofString "fail" == Str.ofString "_failures") = false := by decide +kernel
theorem ne_WorkQueue_fail__failures_p : ¬ (Str.ofString "fail" = Str.ofString "_failures") := by decide +kernel
theorem ne_WorkQueue__leave__most : (Str.ofString "_leave" == Str.ofString "_most") = false := by decide +kernel
theorem ne_WorkQueue__leave__most_p : ¬ (Str.ofString "_leave" = Str.ofString "_most") := by decide +kernel
theorem ne_WorkQueue__leave__waiting : (Str.ofString "_leave" == Str.ofString "_waiting") = false := by decide +kernel
theorem ne_WorkQueue__leave__waiting_p : ¬ (Str.ofString "_leave" = Str.ofString "_waiting") := by decide +kernel
theorem ne_WorkQueue__leave__working : (Str.ofString "_leave" == Str.ofString "_working") = false := by decide +kernel
theorem ne_WorkQueue__leave__working_p : ¬ (Str.ofString "_leave" = Str.ofString "_working") := by decide +kernel
theorem ne_WorkQueue__leave__ticks : (Str.ofString "_leave" == Str.ofString "_ticks") = false := by decide +kernel
theorem ne_WorkQueue__leave__ticks_p : ¬ (Str.ofString "_leave" = Str.ofString "_ticks") := by decide +kernel
theorem ne_WorkQueue__leave__failures : (Str.ofString "_leave" == Str.ofString "_failures") = false := by decide +kernel
theorem ne_WorkQueue__leave__failures_p : ¬ (Str.ofString "_leave" = Str.ofString "_failures") := by decide +kernel
theorem ne_WorkQueue__delay__most : (Str.ofString "_delay" == Str.ofString "_most") = false := by decide +kernel
theorem ne_WorkQueue__delay__most_p : ¬ (Str.ofString "_delay" = Str.ofString "_most") := by decide +kernel
theorem ne_WorkQueue__delay__waiting : (Str.ofString "_delay" == Str.ofString "_waiting") = false := by decide +kernel
theorem ne_WorkQueue__delay__waiting_p : ¬ (Str.ofString "_delay" = Str.ofString "_waiting") := by decide +kernel
theorem ne_WorkQueue__delay__working : (Str.ofString "_delay" == Str.ofString "_working") = false := by decide +kernel
theorem ne_WorkQueue__delay__working_p : ¬ (Str.ofString "_delay" = Str.ofString "_working") := by decide +kernel
theorem ne_WorkQueue__delay__ticks : (Str.ofString "_delay" == Str.ofString "_ticks") = false := by decide +kernel
theorem ne_WorkQueue__delay__ticks_p : ¬ (Str.ofString "_delay" = Str.ofString "_ticks") := by decide +kernel
theorem ne_WorkQueue__delay__failures : (Str.ofString "_delay" == Str.ofString "_failures") = false := by decide +kernel
theorem ne_WorkQueue__delay__failures_p : ¬ (Str.ofString "_delay" = Str.ofString "_failures") := by decide +kernel
theorem ne_WorkQueue_waiting__most : (Str.ofString "waiting" == Str.ofString "_most") = false := by decide +kernel
theorem ne_WorkQueue_waiting__most_p : ¬ (Str.ofString "waiting" = Str.ofString "_most") := by decide +kernel
theorem ne_WorkQueue_waiting__waiting : (Str.ofString "waiting" == Str.ofString "_waiting") = false := by decide +kernel
theorem ne_WorkQueue_waiting__waiting_p : ¬ (Str.ofString "waiting" = Str.ofString "_waiting") := by decide +kernel
theorem ne_WorkQueue_waiting__working : (Str.ofString "waiting" == Str.ofString "_working") = false := by decide +kernel
theorem ne_WorkQueue_waiting__working_p : ¬ (Str.ofString "waiting" = Str.ofString "_working") := by decide +kernel
theorem ne_WorkQueue_waiting__ticks : (Str.ofString "waiting" == Str.ofString "_ticks") = false := by decide +kernel
theorem ne_WorkQueue_waiting__ticks_p : ¬ (Str.ofString "waiting" = Str.ofString "_ticks") := by decide +kernel
theorem ne_WorkQueue_waiting__failures : (Str.ofString "waiting" == Str.ofString "_failures") = false := by decide +kernel
theorem ne_WorkQueue_waiting__failures_p : ¬ (Str.ofString "waiting" = Str.ofString "_failures") := by decide +kernel
theorem ne_WorkQueue_in_work__most : (Str.ofString "in_work" == Str.ofString "_most") = false := by decide +kernel
theorem ne_WorkQueue_in_work__most_p : ¬ (Str.ofString "in_work" = Str.ofString "_most") := by decide +kernel
theorem ne_WorkQueue_in_work__waiting : (Str.ofString "in_work" == Str.ofString "_waiting") = false := by decide +kernel
theorem ne_WorkQueue_in_work__waiting_p : ¬ (Str.ofString "in_work" = Str.ofString "_waiting") := by decide +kernel
theorem ne_WorkQueue_in_work__working : (Str.ofString "in_work" == Str.ofString "_working") = false := by decide +kernel
theorem ne_WorkQueue_in_work__working_p : ¬ (Str.ofString "in_work" = Str.ofString "_working") := by decide +kernel
theorem ne_WorkQueue_in_work__ticks : (Str.ofString "in_work" == Str.ofString "_ticks") = false := by decide +kernel
theorem ne_WorkQueue_in_work__ticks_p : ¬ (Str.ofString "in_work" = Str.ofString "_ticks") := by decide +kernel
theorem ne_WorkQueue_in_work__failures : (Str.ofString "in_work" == Str.ofString "_failures") = false := by decide +kernel
theorem ne_WorkQueue_in_work__failures_p : ¬ (Str.ofString "in_work" = Str.ofString "_failures") := by decide +kernel
theorem ne_WorkQueue_delayed__most : (Str.ofString "delayed" == Str.ofString "_most") = false := by decide +kernel
theorem ne_WorkQueue_delayed__most_p : ¬ (Str.ofString "delayed" = Str.ofString "_most") := by decide +kernel
theorem ne_WorkQueue_delayed__waiting : (Str.ofString "delayed" == Str.ofString "_waiting") = false := by decide +kernel
theorem ne_WorkQueue_delayed__waiting_p : ¬ (Str.ofString "delayed" = Str.ofString "_waiting") := by decide +kernel
theorem ne_WorkQueue_delayed__working : (Str.ofString "delayed" == Str.ofString "_working") = false := by decide +kernel
theorem ne_WorkQueue_delayed__working_p : ¬ (Str.ofString "delayed" = Str.ofString "_working") := by decide +kernel
theorem ne_WorkQueue_delayed__ticks : (Str.ofString "delayed" == Str.ofString "_ticks") = false := by decide +kernel
theorem ne_WorkQueue_delayed__ticks_p : ¬ (Str.ofString "delayed" = Str.ofString "_ticks") := by decide +kernel
theorem ne_WorkQueue_delayed__failures : (Str.ofString "delayed" == Str.ofString "_failures") = false := by decide +kernel
theorem ne_WorkQueue_delayed__failures_p : ¬ (Str.ofString "delayed" = Str.ofString "_failures") := by decide +kernel
theorem ne_WorkQueue_failures__most : (Str.ofString "failures" == Str.ofString "_most") = false := by decide +kernel
theorem ne_WorkQueue_failures__most_p : ¬ (Str.ofString "failures" = Str.ofString "_most") := by decide +kernel
theorem ne_WorkQueue_failures__waiting : (Str.ofString "failures" == Str.ofString "_waiting") = false := by decide +kernel
theorem ne_WorkQueue_failures__waiting_p : ¬ (Str.ofString "failures" = Str.ofString "_waiting") := by decide +kernel
theorem ne_WorkQueue_failures__working : (Str.ofString "failures" == Str.ofString "_working") = false := by decide +kernel
theorem ne_WorkQueue_failures__working_p : ¬ (Str.ofString "failures" = Str.ofString "_working") := by decide +kernel
theorem ne_WorkQueue_failures__ticks : (Str.ofString "failures" == Str.ofString "_ticks") = false := by decide +kernel
theorem ne_WorkQueue_failures__ticks_p : ¬ (Str.ofString "failures" = Str.ofString "_ticks") := by decide +kernel
theorem ne_WorkQueue_failures__failures : (Str.ofString "failures" == Str.ofString "_failures") = false := by decide +kernel
theorem ne_WorkQueue_failures__failures_p : ¬ (Str.ofString "failures" = Str.ofString "_failures") := by decide +kernel
/-- the attributes of a WorkQueue, in the order in which they are stored -/
def fl_WorkQueue (v0 v1 v2 v3 v4 : V) : List (Str × V) := [("_most", v0), ("_waiting", v1), ("_working", v2), ("_ticks", v3), ("_failures", v4)]
theorem fl_WorkQueue__most {v0 v1 v2 v3 v4 : V} : (fl_WorkQueue v0 v1 v2 v3 v4).lookup ("_most" : Str) = some v0 := by unfold fl_WorkQueue; simp [List.lookup, ne_WorkQueue__most__waiting, ne_WorkQueue__most__working, ne_WorkQueue__most__ticks, ne_WorkQueue__most__failures, ne_WorkQueue__waiting__most, ne_WorkQueue__waiting__working, ne_WorkQueue__waiting__ticks, ne_WorkQueue__waiting__failures, ne_WorkQueue__working__most, ne_WorkQueue__working__waiting, ne_WorkQueue__working__ticks, ne_WorkQueue__working__failures, ne_WorkQueue__ticks__most, ne_WorkQueue__ticks__waiting, ne_WorkQueue__ticks__working, ne_WorkQueue__ticks__failures, ne_WorkQueue__failures__most, ne_WorkQueue__failures__waiting, ne_WorkQueue__failures__working, ne_WorkQueue__failures__ticks, ne_WorkQueue_add__most, ne_WorkQueue_add__waiting, ne_WorkQueue_add__working, ne_WorkQueue_add__ticks, ne_WorkQueue_add__failures, ne_WorkQueue_add_later__most, ne_WorkQueue_add_later__waiting, ne_WorkQueue_add_later__working, ne_WorkQueue_add_later__ticks, ne_WorkQueue_add_later__failures, ne_WorkQueue_tick__most, ne_WorkQueue_tick__waiting, ne_WorkQueue_tick__working, ne_WorkQueue_tick__ticks, ne_WorkQueue_tick__failures, ne_WorkQueue_take__most, ne_WorkQueue_take__waiting, ne_WorkQueue_take__working, ne_WorkQueue_take__ticks, ne_WorkQueue_take__failures, ne_WorkQueue_finish__most, ne_WorkQueue_finish__waiting, ne_WorkQueue_finish__working, ne_WorkQueue_finish__ticks, ne_WorkQueue_finish__failures, ne_WorkQueue_fail__most, ne_WorkQueue_fail__waiting, ne_WorkQueue_fail__working, ne_WorkQueue_fail__ticks, ne_WorkQueue_fail__failures, ne_WorkQueue__leave__most, ne_WorkQueue__leave__waiting, ne_WorkQueue__leave__working, ne_WorkQueue__leave__ticks, ne_WorkQueue__leave__failures, ne_WorkQueue__delay__most, ne_WorkQueue__delay__waiting, ne_WorkQueue__delay__working, ne_WorkQueue__delay__ticks, ne_WorkQueue__delay__failures, ne_WorkQueue_waiting__most, ne_WorkQueue_waiting__waiting, ne_WorkQueue_waiting__working, ne_WorkQueue_waiting__ticks, ne_WorkQueue_waiting__failures, ne_WorkQueue_in_work__most, ne_WorkQueue_in_work__waiting, ne_WorkQueue_in_work__working, ne_WorkQueue_in_work__ticks, ne_WorkQueue_in_work__failures, ne_WorkQueue_delayed__most, ne_WorkQueue_delayed__waiting, ne_WorkQueue_delayed__working, ne_WorkQueue_delayed__ticks, ne_WorkQueue_delayed__failures, ne_WorkQueue_failures__most, ne_WorkQueue_failures__waiting, ne_WorkQueue_failures__working, ne_WorkQueue_failures__ticks, ne_WorkQueue_failures__failures, ne_WorkQueue__most__waiting_p, ne_WorkQueue__most__working_p, ne_WorkQueue__most__ticks_p, ne_WorkQueue__most__failures_p, ne_WorkQueue__waiting__most_p, ne_WorkQueue__waiting__working_p, ne_WorkQueue__waiting__ticks_p, ne_WorkQueue__waiting__failures_p, ne_WorkQueue__working__most_p, ne_WorkQueue__working__waiting_p, ne_WorkQueue__working__ticks_p, ne_WorkQueue__working__failures_p, ne_WorkQueue__ticks__most_p, ne_WorkQueue__ticks__waiting_p, ne_WorkQueue__ticks__working_p, ne_WorkQueue__ticks__failures_p, ne_WorkQueue__failures__most_p, ne_WorkQueue__failures__waiting_p, ne_WorkQueue__failures__working_p, ne_WorkQueue__failures__ticks_p, ne_WorkQueue_add__most_p, ne_WorkQueue_add__waiting_p, ne_WorkQueue_add__working_p, ne_WorkQueue_add__ticks_p, ne_WorkQueue_add__failures_p, ne_WorkQueue_add_later__most_p, ne_WorkQueue_add_later__waiting_p, ne_WorkQueue_add_later__working_p, ne_WorkQueue_add_later__ticks_p, ne_WorkQueue_add_later__failures_p, ne_WorkQueue_tick__most_p, ne_WorkQueue_tick__waiting_p, ne_WorkQueue_tick__working_p, ne_WorkQueue_tick__ticks_p, ne_WorkQueue_tick__failures_p, ne_WorkQueue_take__most_p, ne_WorkQueue_take__waiting_p, ne_WorkQueue_take__working_p, ne_WorkQueue_take__ticks_p, ne_WorkQueue_take__failures_p, ne_WorkQueue_finish__most_p, ne_WorkQueue_finish__waiting_p, ne_WorkQueue_finish__working_p, ne_WorkQueue_finish__ticks_p, ne_WorkQueue_finish__failures_p, ne_WorkQueue_fail__most_p, ne_WorkQueue_fail__waiting_p, ne_WorkQueue_fail__working_p, ne_WorkQueue_fail__ticks_p, ne_WorkQueue_fail__failures_p, ne_WorkQueue__leave__most_p, ne_WorkQueue__leave__waiting_p, ne_WorkQueue__leave__working_p, ne_WorkQueue__leave__ticks_p, ne_WorkQueue__leave__failures_p, ne_WorkQueue__delay__most_p, ne_WorkQueue__delay__waiting_p, ne_WorkQueue__delay__working_p, ne_WorkQueue__delay__ticks_p, ne_WorkQueue__delay__failures_p, ne_WorkQueue_waiting__most_p, ne_WorkQueue_waiting__waiting_p, ne_WorkQueue_waiting__working_p, ne_WorkQueue_waiting__ticks_p, ne_WorkQueue_waiting__failures_p, ne_WorkQueue_in_work__most_p, ne_WorkQueue_in_work__waiting_p, ne_WorkQueue_in_work__working_p, ne_WorkQueue_in_work__ticks_p, ne_WorkQueue_in_work__failures_p, ne_WorkQueue_delayed__most_p, ne_WorkQueue_delayed__waiting_p, ne_WorkQueue_delayed__working_p, ne_WorkQueue_delayed__ticks_p, ne_WorkQueue_delayed__failures_p, ne_WorkQueue_failures__most_p, ne_WorkQueue_failures__waiting_p, ne_WorkQueue_failures__working_p, ne_WorkQueue_failures__ticks_p, ne_WorkQueue_failures__failures_p]
theorem pf_WorkQueue__most {v0 v1 v2 v3 v4 x : V} : putF ("_most" : Str) x (fl_WorkQueue v0 v1 v2 v3 v4) = fl_WorkQueue x v1 v2 v3 v4 := by unfold fl_WorkQueue; simp [putF, ne_WorkQueue__most__waiting, ne_WorkQueue__most__working, ne_WorkQueue__most__ticks, ne_WorkQueue__most__failures, ne_WorkQueue__waiting__most, ne_WorkQueue__waiting__working, ne_WorkQueue__waiting__ticks, ne_WorkQueue__waiting__failures, ne_WorkQueue__working__most, ne_WorkQueue__working__waiting, ne_WorkQueue__working__ticks, ne_WorkQueue__working__failures, ne_WorkQueue__ticks__most, ne_WorkQueue__ticks__waiting, ne_WorkQueue__ticks__working, ne_WorkQueue__ticks__failures, ne_WorkQueue__failures__most, ne_WorkQueue__failures__waiting, ne_WorkQueue__failures__working, ne_WorkQueue__failures__ticks, ne_WorkQueue_add__most, ne_WorkQueue_add__waiting, ne_WorkQueue_add__working, ne_WorkQueue_add__ticks, ne_WorkQueue_add__failures, ne_WorkQueue_add_later__most, ne_WorkQueue_add_later__waiting, ne_WorkQueue_add_later__working, ne_WorkQueue_add_later__ticks, ne_WorkQueue_add_later__failures, ne_WorkQueue_tick__most, ne_WorkQueue_tick__waiting, ne_WorkQueue_tick__working, ne_WorkQueue_tick__ticks, ne_WorkQueue_tick__failures, ne_WorkQueue_take__most, ne_WorkQueue_take__waiting, ne_WorkQueue_take__working, ne_WorkQueue_take__ticks, ne_WorkQueue_take__failures, ne_WorkQueue_finish__most, ne_WorkQueue_finish__waiting, ne_WorkQueue_finish__working, ne_WorkQueue_finish__ticks, ne_WorkQueue_finish__failures, ne_WorkQueue_fail__most, ne_WorkQueue_fail__waiting, ne_WorkQueue_fail__working, ne_WorkQueue_fail__ticks, ne_WorkQueue_fail__failures, ne_WorkQueue__leave__most, ne_WorkQueue__leave__waiting, ne_WorkQueue__leave__working, ne_WorkQueue__leave__ticks, ne_WorkQueue__leave__failures, ne_WorkQueue__delay__most, ne_WorkQueue__delay__waiting, ne_WorkQueue__delay__working, ne_WorkQueue__delay__ticks, ne_WorkQueue__delay__failures, ne_WorkQueue_waiting__most, ne_WorkQueue_waiting__waiting, ne_WorkQueue_waiting__working, ne_WorkQueue_waiting__ticks, ne_WorkQueue_waiting__failures, ne_WorkQueue_in_work__most, ne_WorkQueue_in_work__waiting, ne_WorkQueue_in_work__working, ne_WorkQueue_in_work__ticks, ne_WorkQueue_in_work__failures, ne_WorkQueue_delayed__most, ne_WorkQueue_delayed__waiting, ne_WorkQueue_delayed__working, ne_WorkQueue_delayed__ticks, ne_WorkQueue_delayed__failures, ne_WorkQueue_failures__most, ne_WorkQueue_failures__waiting, ne_WorkQueue_failures__working, ne_WorkQueue_failures__ticks, ne_WorkQueue_failures__failures, ne_WorkQueue__most__waiting_p, ne_WorkQueue__most__working_p, ne_WorkQueue__most__ticks_p, ne_WorkQueue__most__failures_p, ne_WorkQueue__waiting__most_p, ne_WorkQueue__waiting__working_p, ne_WorkQueue__waiting__ticks_p, ne_WorkQueue__waiting__failures_p, ne_WorkQueue__working__most_p, ne_WorkQueue__working__waiting_p, ne_WorkQueue__working__ticks_p, ne_WorkQueue__working__failures_p, ne_WorkQueue__ticks__most_p, ne_WorkQueue__ticks__waiting_p, ne_WorkQueue__ticks__working_p, ne_WorkQueue__ticks__failures_p, ne_WorkQueue__failures__most_p, ne_WorkQueue__failures__waiting_p, ne_WorkQueue__failures__working_p, ne_WorkQueue__failures__ticks_p, ne_WorkQueue_add__most_p, ne_WorkQueue_add__waiting_p, ne_WorkQueue_add__working_p, ne_WorkQueue_add__ticks_p, ne_WorkQueue_add__failures_p, ne_WorkQueue_add_later__most_p, ne_WorkQueue_add_later__waiting_p, ne_WorkQueue_add_later__working_p, ne_WorkQueue_add_later__ticks_p, ne_WorkQueue_add_later__failures_p, ne_WorkQueue_tick__most_p, ne_WorkQueue_tick__waiting_p, ne_WorkQueue_tick__working_p, ne_WorkQueue_tick__ticks_p, ne_WorkQueue_tick__failures_p, ne_WorkQueue_take__most_p, ne_WorkQueue_take__waiting_p, ne_WorkQueue_take__working_p, ne_WorkQueue_take__ticks_p, ne_WorkQueue_take__failures_p, ne_WorkQueue_finish__most_p, ne_WorkQueue_finish__waiting_p, ne_WorkQueue_finish__working_p, ne_WorkQueue_finish__ticks_p, ne_WorkQueue_finish__failures_p, ne_WorkQueue_fail__most_p, ne_WorkQueue_fail__waiting_p, ne_WorkQueue_fail__working_p, ne_WorkQueue_fail__ticks_p, ne_WorkQueue_fail__failures_p, ne_WorkQueue__leave__most_p, ne_WorkQueue__leave__waiting_p, ne_WorkQueue__leave__working_p, ne_WorkQueue__leave__ticks_p, ne_WorkQueue__leave__failures_p, ne_WorkQueue__delay__most_p, ne_WorkQueue__delay__waiting_p, ne_WorkQueue__delay__working_p, ne_WorkQueue__delay__ticks_p, ne_WorkQueue__delay__failures_p, ne_WorkQueue_waiting__most_p, ne_WorkQueue_waiting__waiting_p, ne_WorkQueue_waiting__working_p, ne_WorkQueue_waiting__ticks_p, ne_WorkQueue_waiting__failures_p, ne_WorkQueue_in_work__most_p, ne_WorkQueue_in_work__waiting_p, ne_WorkQueue_in_work__working_p, ne_WorkQueue_in_work__ticks_p, ne_WorkQueue_in_work__failures_p, ne_WorkQueue_delayed__most_p, ne_WorkQueue_delayed__waiting_p, ne_WorkQueue_delayed__working_p, ne_WorkQueue_delayed__ticks_p, ne_WorkQueue_delayed__failures_p, ne_WorkQueue_failures__most_p, ne_WorkQueue_failures__waiting_p, ne_WorkQueue_failures__working_p, ne_WorkQueue_failures__ticks_p, ne_WorkQueue_failures__failures_p]
theorem fl_WorkQueue__waiting {v0 v1 v2 v3 v4 : V} : (fl_WorkQueue v0 v1 v2 v3 v4).lookup ("_waiting" : Str) = some v1 := by unfold fl_WorkQueue; simp [List.lookup, ne_WorkQueue__most__waiting, ne_WorkQueue__most__working, ne_WorkQueue__most__ticks, ne_WorkQueue__most__failures, ne_WorkQueue__waiting__most, ne_WorkQueue__waiting__working, ne_WorkQueue__waiting__ticks, ne_WorkQueue__waiting__failures, ne_WorkQueue__working__most, ne_WorkQueue__working__waiting, ne_WorkQueue__working__ticks, ne_WorkQueue__working__failures, ne_WorkQueue__ticks__most, ne_WorkQueue__ticks__waiting, ne_WorkQueue__ticks__working, ne_WorkQueue__ticks__failures, ne_WorkQueue__failures__most, ne_WorkQueue__failures__waiting, ne_WorkQueue__failures__working, ne_WorkQueue__failures__ticks, ne_WorkQueue_add__most, ne_WorkQueue_add__waiting, ne_WorkQueue_add__working, ne_WorkQueue_add__ticks, ne_WorkQueue_add__failures, ne_WorkQueue_add_later__most, ne_WorkQueue_add_later__waiting, ne_WorkQueue_add_later__working, ne_WorkQueue_add_later__ticks, ne_WorkQueue_add_later__failures, ne_WorkQueue_tick__most, ne_WorkQueue_tick__waiting, ne_WorkQueue_tick__working, ne_WorkQueue_tick__ticks, ne_WorkQueue_tick__failures, ne_WorkQueue_take__most, ne_WorkQueue_take__waiting, ne_WorkQueue_take__working, ne_WorkQueue_take__ticks, ne_WorkQueue_take__failures, ne_WorkQueue_finish__most, ne_WorkQueue_finish__waiting, ne_WorkQueue_finish__working, ne_WorkQueue_finish__ticks, ne_WorkQueue_finish__failures, ne_WorkQueue_fail__most, ne_WorkQueue_fail__waiting, ne_WorkQueue_fail__working, ne_WorkQueue_fail__ticks, ne_WorkQueue_fail__failures, ne_WorkQueue__leave__most, ne_WorkQueue__leave__waiting, ne_WorkQueue__leave__working, ne_WorkQueue__leave__ticks, ne_WorkQueue__leave__failures, ne_WorkQueue__delay__most, ne_WorkQueue__delay__waiting, ne_WorkQueue__delay__working, ne_WorkQueue__delay__ticks, ne_WorkQueue__delay__failures, ne_WorkQueue_waiting__most, ne_WorkQueue_waiting__waiting, ne_WorkQueue_waiting__working, ne_WorkQueue_waiting__ticks, ne_WorkQueue_waiting__failures, ne_WorkQueue_in_work__most, ne_WorkQueue_in_work__waiting, ne_WorkQueue_in_work__working, ne_WorkQueue_in_work__ticks, ne_WorkQueue_in_work__failures, ne_WorkQueue_delayed__most, ne_WorkQueue_delayed__waiting, ne_WorkQueue_delayed__working, ne_WorkQueue_delayed__ticks, ne_WorkQueue_delayed__failures, ne_WorkQueue_failures__most, ne_WorkQueue_failures__waiting, ne_WorkQueue_failures__working, ne_WorkQueue_failures__ticks, ne_WorkQueue_failures__failures, ne_WorkQueue__most__waiting_p, ne_WorkQueue__most__working_p, ne_WorkQueue__most__ticks_p, ne_WorkQueue__most__failures_p, ne_WorkQueue__waiting__most_p, ne_WorkQueue__waiting__working_p, ne_WorkQueue__waiting__ticks_p, ne_WorkQueue__waiting__failures_p, ne_WorkQueue__working__most_p, ne_WorkQueue__working__waiting_p, ne_WorkQueue__working__ticks_p, ne_WorkQueue__working__failures_p, ne_WorkQueue__ticks__most_p, ne_WorkQueue__ticks__waiting_p, ne_WorkQueue__ticks__working_p, ne_WorkQueue__ticks__failures_p, ne_WorkQueue__failures__most_p, ne_WorkQueue__failures__waiting_p, ne_WorkQueue__failures__working_p, ne_WorkQueue__failures__ticks_p, ne_WorkQueue_add__most_p, ne_WorkQueue_add__waiting_p, ne_WorkQueue_add__working_p, ne_WorkQueue_add__ticks_p, ne_WorkQueue_add__failures_p, ne_WorkQueue_add_later__most_p, ne_WorkQueue_add_later__waiting_p, ne_WorkQueue_add_later__working_p, ne_WorkQueue_add_later__ticks_p, ne_WorkQueue_add_later__failures_p, ne_WorkQueue_tick__most_p, ne_WorkQueue_tick__waiting_p, ne_WorkQueue_tick__working_p, ne_WorkQueue_tick__ticks_p, ne_WorkQueue_tick__failures_p, ne_WorkQueue_take__most_p, ne_WorkQueue_take__waiting_p, ne_WorkQueue_take__working_p, ne_WorkQueue_take__ticks_p, ne_WorkQueue_take__failures_p, ne_WorkQueue_finish__most_p, ne_WorkQueue_finish__waiting_p, ne_WorkQueue_finish__working_p, ne_WorkQueue_finish__ticks_p, ne_WorkQueue_finish__failures_p, ne_WorkQueue_fail__most_p, ne_WorkQueue_fail__waiting_p, ne_WorkQueue_fail__working_p, ne_WorkQueue_fail__ticks_p, ne_WorkQueue_fail__failures_p, ne_WorkQueue__leave__most_p, ne_WorkQueue__leave__waiting_p, ne_WorkQueue__leave__working_p, ne_WorkQueue__leave__ticks_p, ne_WorkQueue__leave__failures_p, ne_WorkQueue__delay__most_p, ne_WorkQueue__delay__waiting_p, ne_WorkQueue__delay__working_p, ne_WorkQueue__delay__ticks_p, ne_WorkQueue__delay__failures_p, ne_WorkQueue_waiting__most_p, ne_WorkQueue_waiting__waiting_p, ne_WorkQueue_waiting__working_p, ne_WorkQueue_waiting__ticks_p, ne_WorkQueue_waiting__failures_p, ne_WorkQueue_in_work__most_p, ne_WorkQueue_in_work__waiting_p, ne_WorkQueue_in_work__working_p, ne_WorkQueue_in_work__ticks_p, ne_WorkQueue_in_work__failures_p, ne_WorkQueue_delayed__most_p, ne_WorkQueue_delayed__waiting_p, ne_WorkQueue_delayed__working_p, ne_WorkQueue_delayed__ticks_p, ne_WorkQueue_delayed__failures_p, ne_WorkQueue_failures__most_p, ne_WorkQueue_failures__waiting_p, ne_WorkQueue_failures__working_p, ne_WorkQueue_failures__ticks_p, ne_WorkQueue_failures__failures_p]
theorem pf_WorkQueue__waiting {v0 v1 v2 v3 v4 x : V} : putF ("_waiting" : Str) x (fl_WorkQueue v0 v1 v2 v3 v4) = fl_WorkQueue v0 x v2 v3 v4 := by unfold fl_WorkQueue; simp [putF, ne_WorkQueue__most__waiting, ne_WorkQueue__most__working, ne_WorkQueue__most__ticks, ne_WorkQueue__most__failures, ne_WorkQueue__waiting__most, ne_WorkQueue__waiting__working, ne_WorkQueue__waiting__ticks, ne_WorkQueue__waiting__failures, ne_WorkQueue__working__most, ne_WorkQueue__working__waiting, ne_WorkQueue__working__ticks, ne_WorkQueue__working__failures, ne_WorkQueue__ticks__most, ne_WorkQueue__ticks__waiting, ne_WorkQueue__ticks__working, ne_WorkQueue__ticks__failures, ne_WorkQueue__failures__most, ne_WorkQueue__failures__waiting, ne_WorkQueue__failures__working, ne_WorkQueue__failures__ticks, ne_WorkQueue_add__most, ne_WorkQueue_add__waiting, ne_WorkQueue_add__working, ne_WorkQueue_add__ticks, ne_WorkQueue_add__failures, ne_WorkQueue_add_later__most, ne_WorkQueue_add_later__waiting, ne_WorkQueue_add_later__working, ne_WorkQueue_add_later__ticks, ne_WorkQueue_add_later__failures, ne_WorkQueue_tick__most, ne_WorkQueue_tick__waiting, ne_WorkQueue_tick__working, ne_WorkQueue_tick__ticks, ne_WorkQueue_tick__failures, ne_WorkQueue_take__most, ne_WorkQueue_take__waiting, ne_WorkQueue_take__working, ne_WorkQueue_take__ticks, ne_WorkQueue_take__failures, ne_WorkQueue_finish__most, ne_WorkQueue_finish__waiting, ne_WorkQueue_finish__working, ne_WorkQueue_finish__ticks, ne_WorkQueue_finish__failures, ne_WorkQueue_fail__most, ne_WorkQueue_fail__waiting, ne_WorkQueue_fail__working, ne_WorkQueue_fail__ticks, ne_WorkQueue_fail__failures, ne_WorkQueue__leave__most, ne_WorkQueue__leave__waiting, ne_WorkQueue__leave__working, ne_WorkQueue__leave__ticks, ne_WorkQueue__leave__failures, ne_WorkQueue__delay__most, ne_WorkQueue__delay__waiting, ne_WorkQueue__delay__working, ne_WorkQueue__delay__ticks, ne_WorkQueue__delay__failures, ne_WorkQueue_waiting__most, ne_WorkQueue_waiting__waiting, ne_WorkQueue_waiting__working, ne_WorkQueue_waiting__ticks, ne_WorkQueue_waiting__failures, ne_WorkQueue_in_work__most, ne_WorkQueue_in_work__waiting, ne_WorkQueue_in_work__working, ne_WorkQueue_in_work__ticks, ne_WorkQueue_in_work__failures, ne_WorkQueue_delayed__most, ne_WorkQueue_delayed__waiting, ne_WorkQueue_delayed__working, ne_WorkQueue_delayed__ticks, ne_WorkQueue_delayed__failures, ne_WorkQueue_failures__most, ne_WorkQueue_failures__waiting, ne_WorkQueue_failures__working, ne_WorkQueue_failures__ticks, ne_WorkQueue_failures__failures, ne_WorkQueue__most__waiting_p, ne_WorkQueue__most__working_p, ne_WorkQueue__most__ticks_p, ne_WorkQueue__most__failures_p, ne_WorkQueue__waiting__most_p, ne_WorkQueue__waiting__working_p, ne_WorkQueue__waiting__ticks_p, ne_WorkQueue__waiting__failures_p, ne_WorkQueue__working__most_p, ne_WorkQueue__working__waiting_p, ne_WorkQueue__working__ticks_p, ne_WorkQueue__working__failures_p, ne_WorkQueue__ticks__most_p, ne_WorkQueue__ticks__waiting_p, ne_WorkQueue__ticks__working_p, ne_WorkQueue__ticks__failures_p, ne_WorkQueue__failures__most_p, ne_WorkQueue__failures__waiting_p, ne_WorkQueue__failures__working_p, ne_WorkQueue__failures__ticks_p, ne_WorkQueue_add__most_p, ne_WorkQueue_add__waiting_p, ne_WorkQueue_add__working_p, ne_WorkQueue_add__ticks_p, ne_WorkQueue_add__failures_p, ne_WorkQueue_add_later__most_p, ne_WorkQueue_add_later__waiting_p, ne_WorkQueue_add_later__working_p, ne_WorkQueue_add_later__ticks_p, ne_WorkQueue_add_later__failures_p, ne_WorkQueue_tick__most_p, ne_WorkQueue_tick__waiting_p, ne_WorkQueue_tick__working_p, ne_WorkQueue_tick__ticks_p, ne_WorkQueue_tick__failures_p, ne_WorkQueue_take__most_p, ne_WorkQueue_take__waiting_p, ne_WorkQueue_take__working_p, ne_WorkQueue_take__ticks_p, ne_WorkQueue_take__failures_p, ne_WorkQueue_finish__most_p, ne_WorkQueue_finish__waiting_p, ne_WorkQueue_finish__working_p, ne_WorkQueue_finish__ticks_p, ne_WorkQueue_finish__failures_p, ne_WorkQueue_fail__most_p, ne_WorkQueue_fail__waiting_p, ne_WorkQueue_fail__working_p, ne_WorkQueue_fail__ticks_p, ne_WorkQueue_fail__failures_p, ne_WorkQueue__leave__most_p, ne_WorkQueue__leave__waiting_p, ne_WorkQueue__leave__working_p, ne_WorkQueue__leave__ticks_p, ne_WorkQueue__leave__failures_p, ne_WorkQueue__delay__most_p, ne_WorkQueue__delay__waiting_p, ne_WorkQueue__delay__working_p, ne_WorkQueue__delay__ticks_p, ne_WorkQueue__delay__failures_p, ne_WorkQueue_waiting__most_p, ne_WorkQueue_waiting__waiting_p, ne_WorkQueue_waiting__working_p, ne_WorkQueue_waiting__ticks_p, ne_WorkQueue_waiting__failures_p, ne_WorkQueue_in_work__most_p, ne_WorkQueue_in_work__waiting_p, ne_WorkQueue_in_work__working_p, ne_WorkQueue_in_work__ticks_p, ne_WorkQueue_in_work__failures_p, ne_WorkQueue_delayed__most_p, ne_WorkQueue_delayed__waiting_p, ne_WorkQueue_delayed__working_p, ne_WorkQueue_delayed__ticks_p, ne_WorkQueue_delayed__failures_p, ne_WorkQueue_failures__most_p, ne_WorkQueue_failures__waiting_p, ne_WorkQueue_failures__working_p, ne_WorkQueue_failures__ticks_p, ne_WorkQueue_failures__failures_p]
theorem fl_WorkQueue__working {v0 v1 v2 v3 v4 : V} : (fl_WorkQueue v0 v1 v2 v3 v4).lookup ("_working" : Str) = some v2 := by unfold fl_WorkQueue; simp [List.lookup, ne_WorkQueue__most__waiting, ne_WorkQueue__most__working, ne_WorkQueue__most__ticks, ne_WorkQueue__most__failures, ne_WorkQueue__waiting__most, ne_WorkQueue__waiting__working, ne_WorkQueue__waiting__ticks, ne_WorkQueue__waiting__failures, ne_WorkQueue__working__most, ne_WorkQueue__working__waiting, ne_WorkQueue__working__ticks, ne_WorkQueue__working__failures, ne_WorkQueue__ticks__most, ne_WorkQueue__ticks__waiting, ne_WorkQueue__ticks__working, ne_WorkQueue__ticks__failures, ne_WorkQueue__failures__most, ne_WorkQueue__failures__waiting, ne_WorkQueue__failures__working, ne_WorkQueue__failures__ticks, ne_WorkQueue_add__most, ne_WorkQueue_add__waiting, ne_WorkQueue_add__working, ne_WorkQueue_add__ticks, ne_WorkQueue_add__failures, ne_WorkQueue_add_later__most, ne_WorkQueue_add_later__waiting, ne_WorkQueue_add_later__working, ne_WorkQueue_add_later__ticks, ne_WorkQueue_add_later__failures, ne_WorkQueue_tick__most, ne_WorkQueue_tick__waiting, ne_WorkQueue_tick__working, ne_WorkQueue_tick__ticks, ne_WorkQueue_tick__failures, ne_WorkQueue_take__most, ne_WorkQueue_take__waiting, ne_WorkQueue_take__working, ne_WorkQueue_take__ticks, ne_WorkQueue_take__failures, ne_WorkQueue_finish__most, ne_WorkQueue_finish__waiting, ne_WorkQueue_finish__working, ne_WorkQueue_finish__ticks, ne_WorkQueue_finish__failures, ne_WorkQueue_fail__most, ne_WorkQueue_fail__waiting, ne_WorkQueue_fail__working, ne_WorkQueue_fail__ticks, ne_WorkQueue_fail__failures, ne_WorkQueue__leave__most, ne_WorkQueue__leave__waiting, ne_WorkQueue__leave__working, ne_WorkQueue__leave__ticks, ne_WorkQueue__leave__failures, ne_WorkQueue__delay__most, ne_WorkQueue__delay__waiting, ne_WorkQueue__delay__working, ne_WorkQueue__delay__ticks, ne_WorkQueue__delay__failures, ne_WorkQueue_waiting__most, ne_WorkQueue_waiting__waiting, ne_WorkQueue_waiting__working, ne_WorkQueue_waiting__ticks, ne_WorkQueue_waiting__failures, ne_WorkQueue_in_work__most, ne_WorkQueue_in_work__waiting, ne_WorkQueue_in_work__working, ne_WorkQueue_in_work__ticks, ne_WorkQueue_in_work__failures, ne_WorkQueue_delayed__most, ne_WorkQueue_delayed__waiting, ne_WorkQueue_delayed__working, ne_WorkQueue_delayed__ticks, ne_WorkQueue_delayed__failures, ne_WorkQueue_failures__most, ne_WorkQueue_failures__waiting, ne_WorkQueue_failures__working, ne_WorkQueue_failures__ticks, ne_WorkQueue_failures__failures, ne_WorkQueue__most__waiting_p, ne_WorkQueue__most__working_p, ne_WorkQueue__most__ticks_p, ne_WorkQueue__most__failures_p, ne_WorkQueue__waiting__most_p, ne_WorkQueue__waiting__working_p, ne_WorkQueue__waiting__ticks_p, ne_WorkQueue__waiting__failures_p, ne_WorkQueue__working__most_p, ne_WorkQueue__working__waiting_p, ne_WorkQueue__working__ticks_p, ne_WorkQueue__working__failures_p, ne_WorkQueue__ticks__most_p, ne_WorkQueue__ticks__waiting_p, ne_WorkQueue__ticks__working_p, ne_WorkQueue__ticks__failures_p, ne_WorkQueue__failures__most_p, ne_WorkQueue__failures__waiting_p, ne_WorkQueue__failures__working_p, ne_WorkQueue__failures__ticks_p, ne_WorkQueue_add__most_p, ne_WorkQueue_add__waiting_p, ne_WorkQueue_add__working_p, ne_WorkQueue_add__ticks_p, ne_WorkQueue_add__failures_p, ne_WorkQueue_add_later__most_p, ne_WorkQueue_add_later__waiting_p, ne_WorkQueue_add_later__working_p, ne_WorkQueue_add_later__ticks_p, ne_WorkQueue_add_later__failures_p, ne_WorkQueue_tick__most_p, ne_WorkQueue_tick__waiting_p, ne_WorkQueue_tick__working_p, ne_WorkQueue_tick__ticks_p, ne_WorkQueue_tick__failures_p, ne_WorkQueue_take__most_p, ne_WorkQueue_take__waiting_p, ne_WorkQueue_take__working_p, ne_WorkQueue_take__ticks_p, ne_WorkQueue_take__failures_p, ne_WorkQueue_finish__most_p, ne_WorkQueue_finish__waiting_p, ne_WorkQueue_finish__working_p, ne_WorkQueue_finish__ticks_p, ne_WorkQueue_finish__failures_p, ne_WorkQueue_fail__most_p, ne_WorkQueue_fail__waiting_p, ne_WorkQueue_fail__working_p, ne_WorkQueue_fail__ticks_p, ne_WorkQueue_fail__failures_p, ne_WorkQueue__leave__most_p, ne_WorkQueue__leave__waiting_p, ne_WorkQueue__leave__working_p, ne_WorkQueue__leave__ticks_p, ne_WorkQueue__leave__failures_p, ne_WorkQueue__delay__most_p, ne_WorkQueue__delay__waiting_p, ne_WorkQueue__delay__working_p, ne_WorkQueue__delay__ticks_p, ne_WorkQueue__delay__failures_p, ne_WorkQueue_waiting__most_p, ne_WorkQueue_waiting__waiting_p, ne_WorkQueue_waiting__working_p, ne_WorkQueue_waiting__ticks_p, ne_WorkQueue_waiting__failures_p, ne_WorkQueue_in_work__most_p, ne_WorkQueue_in_work__waiting_p, ne_WorkQueue_in_work__working_p, ne_WorkQueue_in_work__ticks_p, ne_WorkQueue_in_work__failures_p, ne_WorkQueue_delayed__most_p, ne_WorkQueue_delayed__waiting_p, ne_WorkQueue_delayed__working_p, ne_WorkQueue_delayed__ticks_p, ne_WorkQueue_delayed__failures_p, ne_WorkQueue_failures__most_p, ne_WorkQueue_failures__waiting_p, ne_WorkQueue_failures__working_p, ne_WorkQueue_failures__ticks_p, ne_WorkQueue_failures__failures_p]
theorem pf_WorkQueue__working {v0 v1 v2 v3 v4 x : V} : putF ("_working" : Str) x (fl_WorkQueue v0 v1 v2 v3 v4) = fl_WorkQueue v0 v1 x v3 v4 := by unfold fl_WorkQueue; simp [putF, ne_WorkQueue__most__waiting, ne_WorkQueue__most__working, ne_WorkQueue__most__ticks, ne_WorkQueue__most__failures, ne_WorkQueue__waiting__most, ne_WorkQueue__waiting__working, ne_WorkQueue__waiting__ticks, ne_WorkQueue__waiting__failures, ne_WorkQueue__working__most, ne_WorkQueue__working__waiting, ne_WorkQueue__working__ticks, ne_WorkQueue__working__failures, ne_WorkQueue__ticks__most, ne_WorkQueue__ticks__waiting, ne_WorkQueue__ticks__working, ne_WorkQueue__ticks__failures, ne_WorkQueue__failures__most, ne_WorkQueue__failures__waiting, ne_WorkQueue__failures__working, ne_WorkQueue__failures__ticks, ne_WorkQueue_add__most, ne_WorkQueue_add__waiting, ne_WorkQueue_add__working, ne_WorkQueue_add__ticks, ne_WorkQueue_add__failures, ne_WorkQueue_add_later__most, ne_WorkQueue_add_later__waiting, ne_WorkQueue_add_later__working, ne_WorkQueue_add_later__ticks, ne_WorkQueue_add_later__failures, ne_WorkQueue_tick__most, ne_WorkQueue_tick__waiting, ne_WorkQueue_tick__working, ne_WorkQueue_tick__ticks, ne_WorkQueue_tick__failures, ne_WorkQueue_take__most, ne_WorkQueue_take__waiting, ne_WorkQueue_take__working, ne_WorkQueue_take__ticks, ne_WorkQueue_take__failures, ne_WorkQueue_finish__most, ne_WorkQueue_finish__waiting, ne_WorkQueue_finish__working, ne_WorkQueue_finish__ticks, ne_WorkQueue_finish__failures, ne_WorkQueue_fail__most, ne_WorkQueue_fail__waiting, ne_WorkQueue_fail__working, ne_WorkQueue_fail__ticks, ne_WorkQueue_fail__failures, ne_WorkQueue__leave__most, ne_WorkQueue__leave__waiting, ne_WorkQueue__leave__working, ne_WorkQueue__leave__ticks, ne_WorkQueue__leave__failures, ne_WorkQueue__delay__most, ne_WorkQueue__delay__waiting, ne_WorkQueue__delay__working, ne_WorkQueue__delay__ticks, ne_WorkQueue__delay__failures, ne_WorkQueue_waiting__most, ne_WorkQueue_waiting__waiting, ne_WorkQueue_waiting__working, ne_WorkQueue_waiting__ticks, ne_WorkQueue_waiting__failures, ne_WorkQueue_in_work__most, ne_WorkQueue_in_work__waiting, ne_WorkQueue_in_work__working, ne_WorkQueue_in_work__ticks, ne_WorkQueue_in_work__failures, ne_WorkQueue_delayed__most, ne_WorkQueue_delayed__waiting, ne_WorkQueue_delayed__working, ne_WorkQueue_delayed__ticks, ne_WorkQueue_delayed__failures, ne_WorkQueue_failures__most, ne_WorkQueue_failures__waiting, ne_WorkQueue_failures__working, ne_WorkQueue_failures__ticks, ne_WorkQueue_failures__failures, ne_WorkQueue__most__waiting_p, ne_WorkQueue__most__working_p, ne_WorkQueue__most__ticks_p, ne_WorkQueue__most__failures_p, ne_WorkQueue__waiting__most_p, ne_WorkQueue__waiting__working_p, ne_WorkQueue__waiting__ticks_p, ne_WorkQueue__waiting__failures_p, ne_WorkQueue__working__most_p, ne_WorkQueue__working__waiting_p, ne_WorkQueue__working__ticks_p, ne_WorkQueue__working__failures_p, ne_WorkQueue__ticks__most_p, ne_WorkQueue__ticks__waiting_p, ne_WorkQueue__ticks__working_p, ne_WorkQueue__ticks__failures_p, ne_WorkQueue__failures__most_p, ne_WorkQueue__failures__waiting_p, ne_WorkQueue__failures__working_p, ne_WorkQueue__failures__ticks_p, ne_WorkQueue_add__most_p, ne_WorkQueue_add__waiting_p, ne_WorkQueue_add__working_p, ne_WorkQueue_add__ticks_p, ne_WorkQueue_add__failures_p, ne_WorkQueue_add_later__most_p, ne_WorkQueue_add_later__waiting_p, ne_WorkQueue_add_later__working_p, ne_WorkQueue_add_later__ticks_p, ne_WorkQueue_add_later__failures_p, ne_WorkQueue_tick__most_p, ne_WorkQueue_tick__waiting_p, ne_WorkQueue_tick__working_p, ne_WorkQueue_tick__ticks_p, ne_WorkQueue_tick__failures_p, ne_WorkQueue_take__most_p, ne_WorkQueue_take__waiting_p, ne_WorkQueue_take__working_p, ne_WorkQueue_take__ticks_p, ne_WorkQueue_take__failures_p, ne_WorkQueue_finish__most_p, ne_WorkQueue_finish__waiting_p, ne_WorkQueue_finish__working_p, ne_WorkQueue_finish__ticks_p, ne_WorkQueue_finish__failures_p, ne_WorkQueue_fail__most_p, ne_WorkQueue_fail__waiting_p, ne_WorkQueue_fail__working_p, ne_WorkQueue_fail__ticks_p, ne_WorkQueue_fail__failures_p, ne_WorkQueue__leave__most_p, ne_WorkQueue__leave__waiting_p, ne_WorkQueue__leave__working_p, ne_WorkQueue__leave__ticks_p, ne_WorkQueue__leave__failures_p, ne_WorkQueue__delay__most_p, ne_WorkQueue__delay__waiting_p, ne_WorkQueue__delay__working_p, ne_WorkQueue__delay__ticks_p, ne_WorkQueue__delay__failures_p, ne_WorkQueue_waiting__most_p, ne_WorkQueue_waiting__waiting_p, ne_WorkQueue_waiting__working_p, ne_WorkQueue_waiting__ticks_p, ne_WorkQueue_waiting__failures_p, ne_WorkQueue_in_work__most_p, ne_WorkQueue_in_work__waiting_p, ne_WorkQueue_in_work__working_p, ne_WorkQueue_in_work__ticks_p, ne_WorkQueue_in_work__failures_p, ne_WorkQueue_delayed__most_p, ne_WorkQueue_delayed__waiting_p, ne_WorkQueue_delayed__working_p, ne_WorkQueue_delayed__ticks_p, ne_WorkQueue_delayed__failures_p, ne_WorkQueue_failures__most_p, ne_WorkQueue_failures__waiting_p, ne_WorkQueue_failures__working_p, ne_WorkQueue_failures__ticks_p, ne_WorkQueue_failures__failures_p]
theorem fl_WorkQueue__ticks {v0 v1 v2 v3 v4 : V} : (fl_WorkQueue v0 v1 v2 v3 v4).lookup ("_ticks" : Str) = some v3 := by unfold fl_WorkQueue; simp [List.lookup, ne_WorkQueue__most__waiting, ne_WorkQueue__most__working, ne_WorkQueue__most__ticks, ne_WorkQueue__most__failures, ne_WorkQueue__waiting__most, ne_WorkQueue__waiting__working, ne_WorkQueue__waiting__ticks, ne_WorkQueue__waiting__failures, ne_WorkQueue__working__most, ne_WorkQueue__working__waiting, ne_WorkQueue__working__ticks, ne_WorkQueue__working__failures, ne_WorkQueue__ticks__most, ne_WorkQueue__ticks__waiting, ne_WorkQueue__ticks__working, ne_WorkQueue__ticks__failures, ne_WorkQueue__failures__most, ne_WorkQueue__failures__waiting, ne_WorkQueue__failures__working, ne_WorkQueue__failures__ticks, ne_WorkQueue_add__most, ne_WorkQueue_add__waiting, ne_WorkQueue_add__working, ne_WorkQueue_add__ticks, ne_WorkQueue_add__failures, ne_WorkQueue_add_later__most, ne_WorkQueue_add_later__waiting, ne_WorkQueue_add_later__working, ne_WorkQueue_add_later__ticks, ne_WorkQueue_add_later__failures, ne_WorkQueue_tick__most, ne_WorkQueue_tick__waiting, ne_WorkQueue_tick__working, ne_WorkQueue_tick__ticks, ne_WorkQueue_tick__failures, ne_WorkQueue_take__most, ne_WorkQueue_take__waiting, ne_WorkQueue_take__working, ne_WorkQueue_take__ticks, ne_WorkQueue_take__failures, ne_WorkQueue_finish__most, ne_WorkQueue_finish__waiting, ne_WorkQueue_finish__working, ne_WorkQueue_finish__ticks, ne_WorkQueue_finish__failures, ne_WorkQueue_fail__most, ne_WorkQueue_fail__waiting, ne_WorkQueue_fail__working, ne_WorkQueue_fail__ticks, ne_WorkQueue_fail__failures, ne_WorkQueue__leave__most, ne_WorkQueue__leave__waiting, ne_WorkQueue__leave__working, ne_WorkQueue__leave__ticks, ne_WorkQueue__leave__failures, ne_WorkQueue__delay__most, ne_WorkQueue__delay__waiting, ne_WorkQueue__delay__working, ne_WorkQueue__delay__ticks, ne_WorkQueue__delay__failures, ne_WorkQueue_waiting__most, ne_WorkQueue_waiting__waiting, ne_WorkQueue_waiting__working, ne_WorkQueue_waiting__ticks, ne_WorkQueue_waiting__failures, ne_WorkQueue_in_work__most, ne_WorkQueue_in_work__waiting, ne_WorkQueue_in_work__working, ne_WorkQueue_in_work__ticks, ne_WorkQueue_in_work__failures, ne_WorkQueue_delayed__most, ne_WorkQueue_delayed__waiting, ne_WorkQueue_delayed__working, ne_WorkQueue_delayed__ticks, ne_WorkQueue_delayed__failures, ne_WorkQueue_failures__most, ne_WorkQueue_failures__waiting, ne_WorkQueue_failures__working, ne_WorkQueue_failures__ticks, ne_WorkQueue_failures__failures, ne_WorkQueue__most__waiting_p, ne_WorkQueue__most__working_p, ne_WorkQueue__most__ticks_p, ne_WorkQueue__most__failures_p, ne_WorkQueue__waiting__most_p, ne_WorkQueue__waiting__working_p, ne_WorkQueue__waiting__ticks_p, ne_WorkQueue__waiting__failures_p, ne_WorkQueue__working__most_p, ne_WorkQueue__working__waiting_p, ne_WorkQueue__working__ticks_p, ne_WorkQueue__working__failures_p, ne_WorkQueue__ticks__most_p, ne_WorkQueue__ticks__waiting_p, ne_WorkQueue__ticks__working_p, ne_WorkQueue__ticks__failures_p, ne_WorkQueue__failures__most_p, ne_WorkQueue__failures__waiting_p, ne_WorkQueue__failures__working_p, ne_WorkQueue__failures__ticks_p, ne_WorkQueue_add__most_p, ne_WorkQueue_add__waiting_p, ne_WorkQueue_add__working_p, ne_WorkQueue_add__ticks_p, ne_WorkQueue_add__failures_p, ne_WorkQueue_add_later__most_p, ne_WorkQueue_add_later__waiting_p, ne_WorkQueue_add_later__working_p, ne_WorkQueue_add_later__ticks_p, ne_WorkQueue_add_later__failures_p, ne_WorkQueue_tick__most_p, ne_WorkQueue_tick__waiting_p, ne_WorkQueue_tick__working_p, ne_WorkQueue_tick__ticks_p, ne_WorkQueue_tick__failures_p, ne_WorkQueue_take__most_p, ne_WorkQueue_take__waiting_p, ne_WorkQueue_take__working_p, ne_WorkQueue_take__ticks_p, ne_WorkQueue_take__failures_p, ne_WorkQueue_finish__most_p, ne_WorkQueue_finish__waiting_p, ne_WorkQueue_finish__working_p, ne_WorkQueue_finish__ticks_p, ne_WorkQueue_finish__failures_p, ne_WorkQueue_fail__most_p, ne_WorkQueue_fail__waiting_p, ne_WorkQueue_fail__working_p, ne_WorkQueue_fail__ticks_p, ne_WorkQueue_fail__failures_p, ne_WorkQueue__leave__most_p, ne_WorkQueue__leave__waiting_p, ne_WorkQueue__leave__working_p, ne_WorkQueue__leave__ticks_p, ne_WorkQueue__leave__failures_p, ne_WorkQueue__delay__most_p, ne_WorkQueue__delay__waiting_p, ne_WorkQueue__delay__working_p, ne_WorkQueue__delay__ticks_p, ne_WorkQueue__delay__failures_p, ne_WorkQueue_waiting__most_p, ne_WorkQueue_waiting__waiting_p, ne_WorkQueue_waiting__working_p, ne_WorkQueue_waiting__ticks_p, ne_WorkQueue_waiting__failures_p, ne_WorkQueue_in_work__most_p, ne_WorkQueue_in_work__waiting_p, ne_WorkQueue_in_work__working_p, ne_WorkQueue_in_work__ticks_p, ne_WorkQueue_in_work__failures_p, ne_WorkQueue_delayed__most_p, ne_WorkQueue_delayed__waiting_p, ne_WorkQueue_delayed__working_p, ne_WorkQueue_delayed__ticks_p, ne_WorkQueue_delayed__failures_p, ne_WorkQueue_failures__most_p, ne_WorkQueue_failures__waiting_p, ne_WorkQueue_failures__working_p, ne_WorkQueue_failures__ticks_p, ne_WorkQueue_failures__failures_p]
theorem pf_WorkQueue__ticks {v0 v1 v2 v3 v4 x : V} : putF ("_ticks" : Str) x (fl_WorkQueue v0 v1 v2 v3 v4) = fl_WorkQueue v0 v1 v2 x v4 := by unfold fl_WorkQueue; simp [putF, ne_WorkQueue__most__waiting, ne_WorkQueue__most__working, ne_WorkQueue__most__ticks, ne_WorkQueue__most__failures, ne_WorkQueue__waiting__most, ne_WorkQueue__waiting__working, ne_WorkQueue__waiting__ticks, ne_WorkQueue__waiting__failures, ne_WorkQueue__working__most, ne_WorkQueue__working__waiting, ne_WorkQueue__working__ticks, ne_WorkQueue__working__failures, ne_WorkQueue__ticks__most, ne_WorkQueue__ticks__waiting, ne_WorkQueue__ticks__working, ne_WorkQueue__ticks__failures, ne_WorkQueue__failures__most, ne_WorkQueue__failures__waiting, ne_WorkQueue__failures__working, ne_WorkQueue__failures__ticks, ne_WorkQueue_add__most, ne_WorkQueue_add__waiting, ne_WorkQueue_add__working, ne_WorkQueue_add__ticks, ne_WorkQueue_add__failures, ne_WorkQueue_add_later__most, ne_WorkQueue_add_later__waiting, ne_WorkQueue_add_later__working, ne_WorkQueue_add_later__ticks, ne_WorkQueue_add_later__failures, ne_WorkQueue_tick__most, ne_WorkQueue_tick__waiting, ne_WorkQueue_tick__working, ne_WorkQueue_tick__ticks, ne_WorkQueue_tick__failures, ne_WorkQueue_take__most, ne_WorkQueue_take__waiting, ne_WorkQueue_take__working, ne_WorkQueue_take__ticks, ne_WorkQueue_take__failures, ne_WorkQueue_finish__most, ne_WorkQueue_finish__waiting, ne_WorkQueue_finish__working, ne_WorkQueue_finish__ticks, ne_WorkQueue_finish__failures, ne_WorkQueue_fail__most, ne_WorkQueue_fail__waiting, ne_WorkQueue_fail__working, ne_WorkQueue_fail__ticks, ne_WorkQueue_fail__failures, ne_WorkQueue__leave__most, ne_WorkQueue__leave__waiting, ne_WorkQueue__leave__working, ne_WorkQueue__leave__ticks, ne_WorkQueue__leave__failures, ne_WorkQueue__delay__most, ne_WorkQueue__delay__waiting, ne_WorkQueue__delay__working, ne_WorkQueue__delay__ticks, ne_WorkQueue__delay__failures, ne_WorkQueue_waiting__most, ne_WorkQueue_waiting__waiting, ne_WorkQueue_waiting__working, ne_WorkQueue_waiting__ticks, ne_WorkQueue_waiting__failures, ne_WorkQueue_in_work__most, ne_WorkQueue_in_work__waiting, ne_WorkQueue_in_work__working, ne_WorkQueue_in_work__ticks, ne_WorkQueue_in_work__failures, ne_WorkQueue_delayed__most, ne_WorkQueue_delayed__waiting, ne_WorkQueue_delayed__working, ne_WorkQueue_delayed__ticks, ne_WorkQueue_delayed__failures, ne_WorkQueue_failures__most, ne_WorkQueue_failures__waiting, ne_WorkQueue_failures__working, ne_WorkQueue_failures__ticks, ne_WorkQueue_failures__failures, ne_WorkQueue__most__waiting_p, ne_WorkQueue__most__working_p, ne_WorkQueue__most__ticks_p, ne_WorkQueue__most__failures_p, ne_WorkQueue__waiting__most_p, ne_WorkQueue__waiting__working_p, ne_WorkQueue__waiting__ticks_p, ne_WorkQueue__waiting__failures_p, ne_WorkQueue__working__most_p, ne_WorkQueue__working__waiting_p, ne_WorkQueue__working__ticks_p, ne_WorkQueue__working__failures_p, ne_WorkQueue__ticks__most_p, ne_WorkQueue__ticks__waiting_p, ne_WorkQueue__ticks__working_p, ne_WorkQueue__ticks__failures_p, ne_WorkQueue__failures__most_p, ne_WorkQueue__failures__waiting_p, ne_WorkQueue__failures__working_p, ne_WorkQueue__failures__ticks_p, ne_WorkQueue_add__most_p, ne_WorkQueue_add__waiting_p, ne_WorkQueue_add__working_p, ne_WorkQueue_add__ticks_p, ne_WorkQueue_add__failures_p, ne_WorkQueue_add_later__most_p, ne_WorkQueue_add_later__waiting_p, ne_WorkQueue_add_later__working_p, ne_WorkQueue_add_later__ticks_p, ne_WorkQueue_add_later__failures_p, ne_WorkQueue_tick__most_p, ne_WorkQueue_tick__waiting_p, ne_WorkQueue_tick__working_p, ne_WorkQueue_tick__ticks_p, ne_WorkQueue_tick__failures_p, ne_WorkQueue_take__most_p, ne_WorkQueue_take__waiting_p, ne_WorkQueue_take__working_p, ne_WorkQueue_take__ticks_p, ne_WorkQueue_take__failures_p, ne_WorkQueue_finish__most_p, ne_WorkQueue_finish__waiting_p, ne_WorkQueue_finish__working_p, ne_WorkQueue_finish__ticks_p, ne_WorkQueue_finish__failures_p, ne_WorkQueue_fail__most_p, ne_WorkQueue_fail__waiting_p, ne_WorkQueue_fail__working_p, ne_WorkQueue_fail__ticks_p, ne_WorkQueue_fail__failures_p, ne_WorkQueue__leave__most_p, ne_WorkQueue__leave__waiting_p, ne_WorkQueue__leave__working_p, ne_WorkQueue__leave__ticks_p, ne_WorkQueue__leave__failures_p, ne_WorkQueue__delay__most_p, ne_WorkQueue__delay__waiting_p, ne_WorkQueue__delay__working_p, ne_WorkQueue__delay__ticks_p, ne_WorkQueue__delay__failures_p, ne_WorkQueue_waiting__most_p, ne_WorkQueue_waiting__waiting_p, ne_WorkQueue_waiting__working_p, ne_WorkQueue_waiting__ticks_p, ne_WorkQueue_waiting__failures_p, ne_WorkQueue_in_work__most_p, ne_WorkQueue_in_work__waiting_p, ne_WorkQueue_in_work__working_p, ne_WorkQueue_in_work__ticks_p, ne_WorkQueue_in_work__failures_p, ne_WorkQueue_delayed__most_p, ne_WorkQueue_delayed__waiting_p, ne_WorkQueue_delayed__working_p, ne_WorkQueue_delayed__ticks_p, ne_WorkQueue_delayed__failures_p, ne_WorkQueue_failures__most_p, ne_WorkQueue_failures__waiting_p, ne_WorkQueue_failures__working_p, ne_WorkQueue_failures__ticks_p, ne_WorkQueue_failures__failures_p]
theorem fl_WorkQueue__failures {v0 v1 v2 v3 v4 : V} : (fl_WorkQueue v0 v1 v2 v3 v4).lookup ("_failures" : Str) = some v4 := by unfold fl_WorkQueue; simp [List.lookup, ne_WorkQueue__most__waiting, ne_WorkQueue__most__working, ne_WorkQueue__most__ticks, ne_WorkQueue__most__failures, ne_WorkQueue__waiting__most, ne_WorkQueue__waiting__working, ne_WorkQueue__waiting__ticks, ne_WorkQueue__waiting__failures, ne_WorkQueue__working__most, ne_WorkQueue__working__waiting, ne_WorkQueue__working__ticks, ne_WorkQueue__working__failures, ne_WorkQueue__ticks__most, ne_WorkQueue__ticks__waiting, ne_WorkQueue__ticks__working, ne_WorkQueue__ticks__failures, ne_WorkQueue__failures__most, ne_WorkQueue__failures__waiting, ne_WorkQueue__failures__working, ne_WorkQueue__failures__ticks, ne_WorkQueue_add__most, ne_WorkQueue_add__waiting, ne_WorkQueue_add__working, ne_WorkQueue_add__ticks, ne_WorkQueue_add__failures, ne_WorkQueue_add_later__most, ne_WorkQueue_add_later__waiting, ne_WorkQueue_add_later__working, ne_WorkQueue_add_later__ticks, ne_WorkQueue_add_later__failures, ne_WorkQueue_tick__most, ne_WorkQueue_tick__waiting, ne_WorkQueue_tick__working, ne_WorkQueue_tick__ticks, ne_WorkQueue_tick__failures, ne_WorkQueue_take__most, ne_WorkQueue_take__waiting, ne_WorkQueue_take__working, ne_WorkQueue_take__ticks, ne_WorkQueue_take__failures, ne_WorkQueue_finish__most, ne_WorkQueue_finish__waiting, ne_WorkQueue_finish__working, ne_WorkQueue_finish__ticks, ne_WorkQueue_finish__failures, ne_WorkQueue_fail__most, ne_WorkQueue_fail__waiting, ne_WorkQueue_fail__working, ne_WorkQueue_fail__ticks, ne_WorkQueue_fail__failures, ne_WorkQueue__leave__most, ne_WorkQueue__leave__waiting, ne_WorkQueue__leave__working, ne_WorkQueue__leave__ticks, ne_WorkQueue__leave__failures, ne_WorkQueue__delay__most, ne_WorkQueue__delay__waiting, ne_WorkQueue__delay__working, ne_WorkQueue__delay__ticks, ne_WorkQueue__delay__failures, ne_WorkQueue_waiting__most, ne_WorkQueue_waiting__waiting, ne_WorkQueue_waiting__working, ne_WorkQueue_waiting__ticks, ne_WorkQueue_waiting__failures, ne_WorkQueue_in_work__most, ne_WorkQueue_in_work__waiting, ne_WorkQueue_in_work__working, ne_WorkQueue_in_work__ticks, ne_WorkQueue_in_work__failures, ne_WorkQueue_delayed__most, ne_WorkQueue_delayed__waiting, ne_WorkQueue_delayed__working, ne_WorkQueue_delayed__ticks, ne_WorkQueue_delayed__failures, ne_WorkQueue_failures__most, ne_WorkQueue_failures__waiting, ne_WorkQueue_failures__working, ne_WorkQueue_failures__ticks, ne_WorkQueue_failures__failures, ne_WorkQueue__most__waiting_p, ne_WorkQueue__most__working_p, ne_WorkQueue__most__ticks_p, ne_WorkQueue__most__failures_p, ne_WorkQueue__waiting__most_p, ne_WorkQueue__waiting__working_p, ne_WorkQueue__waiting__ticks_p, ne_WorkQueue__waiting__failures_p, ne_WorkQueue__working__most_p, ne_WorkQueue__working__waiting_p, ne_WorkQueue__working__ticks_p, ne_WorkQueue__working__failures_p, ne_WorkQueue__ticks__most_p, ne_WorkQueue__ticks__waiting_p, ne_WorkQueue__ticks__working_p, ne_WorkQueue__ticks__failures_p, ne_WorkQueue__failures__most_p, ne_WorkQueue__failures__waiting_p, ne_WorkQueue__failures__working_p, ne_WorkQueue__failures__ticks_p, ne_WorkQueue_add__most_p, ne_WorkQueue_add__waiting_p, ne_WorkQueue_add__working_p, ne_WorkQueue_add__ticks_p, ne_WorkQueue_add__failures_p, ne_WorkQueue_add_later__most_p, ne_WorkQueue_add_later__waiting_p, ne_WorkQueue_add_later__working_p, ne_WorkQueue_add_later__ticks_p, ne_WorkQueue_add_later__failures_p, ne_WorkQueue_tick__most_p, ne_WorkQueue_tick__waiting_p, ne_WorkQueue_tick__working_p, ne_WorkQueue_tick__ticks_p, ne_WorkQueue_tick__failures_p, ne_WorkQueue_take__most_p, ne_WorkQueue_take__waiting_p, ne_WorkQueue_take__working_p, ne_WorkQueue_take__ticks_p, ne_WorkQueue_take__failures_p, ne_WorkQueue_finish__most_p, ne_WorkQueue_finish__waiting_p, ne_WorkQueue_finish__working_p, ne_WorkQueue_finish__ticks_p, ne_WorkQueue_finish__failures_p, ne_WorkQueue_fail__most_p, ne_WorkQueue_fail__waiting_p, ne_WorkQueue_fail__working_p, ne_WorkQueue_fail__ticks_p, ne_WorkQueue_fail__failures_p, ne_WorkQueue__leave__most_p, ne_WorkQueue__leave__waiting_p, ne_WorkQueue__leave__working_p, ne_WorkQueue__leave__ticks_p, ne_WorkQueue__leave__failures_p, ne_WorkQueue__delay__most_p, ne_WorkQueue__delay__waiting_p, ne_WorkQueue__delay__working_p, ne_WorkQueue__delay__ticks_p, ne_WorkQueue__delay__failures_p, ne_WorkQueue_waiting__most_p, ne_WorkQueue_waiting__waiting_p, ne_WorkQueue_waiting__working_p, ne_WorkQueue_waiting__ticks_p, ne_WorkQueue_waiting__failures_p, ne_WorkQueue_in_work__most_p, ne_WorkQueue_in_work__waiting_p, ne_WorkQueue_in_work__working_p, ne_WorkQueue_in_work__ticks_p, ne_WorkQueue_in_work__failures_p, ne_WorkQueue_delayed__most_p, ne_WorkQueue_delayed__waiting_p, ne_WorkQueue_delayed__working_p, ne_WorkQueue_delayed__ticks_p, ne_WorkQueue_delayed__failures_p, ne_WorkQueue_failures__most_p, ne_WorkQueue_failures__waiting_p, ne_WorkQueue_failures__working_p, ne_WorkQueue_failures__ticks_p, ne_WorkQueue_failures__failures_p]
theorem pf_WorkQueue__failures {v0 v1 v2 v3 v4 x : V} : putF ("_failures" : Str) x (fl_WorkQueue v0 v1 v2 v3 v4) = fl_WorkQueue v0 v1 v2 v3 x := by unfold fl_WorkQueue; simp [putF, ne_WorkQueue__most__waiting, ne_WorkQueue__most__working, ne_WorkQueue__most__ticks, ne_WorkQueue__most__failures, ne_WorkQueue__waiting__most, ne_WorkQueue__waiting__working, ne_WorkQueue__waiting__ticks, ne_WorkQueue__waiting__failures, ne_WorkQueue__working__most, ne_WorkQueue__working__waiting, ne_WorkQueue__working__ticks, ne_WorkQueue__working__failures, ne_WorkQueue__ticks__most, ne_WorkQueue__ticks__waiting, ne_WorkQueue__ticks__working, ne_WorkQueue__ticks__failures, ne_WorkQueue__failures__most, ne_WorkQueue__failures__waiting, ne_WorkQueue__failures__working, ne_WorkQueue__failures__ticks, ne_WorkQueue_add__most, ne_WorkQueue_add__waiting, ne_WorkQueue_add__working, ne_WorkQueue_add__ticks, ne_WorkQueue_add__failures, ne_WorkQueue_add_later__most, ne_WorkQueue_add_later__waiting, ne_WorkQueue_add_later__working, ne_WorkQueue_add_later__ticks, ne_WorkQueue_add_later__failures, ne_WorkQueue_tick__most, ne_WorkQueue_tick__waiting, ne_WorkQueue_tick__working, ne_WorkQueue_tick__ticks, ne_WorkQueue_tick__failures, ne_WorkQueue_take__most, ne_WorkQueue_take__waiting, ne_WorkQueue_take__working, ne_WorkQueue_take__ticks, ne_WorkQueue_take__failures, ne_WorkQueue_finish__most, ne_WorkQueue_finish__waiting, ne_WorkQueue_finish__working, ne_WorkQueue_finish__ticks, ne_WorkQueue_finish__failures, ne_WorkQueue_fail__most, ne_WorkQueue_fail__waiting, ne_WorkQueue_fail__working, ne_WorkQueue_fail__ticks, ne_WorkQueue_fail__failures, ne_WorkQueue__leave__most, ne_WorkQueue__leave__waiting, ne_WorkQueue__leave__working, ne_WorkQueue__leave__ticks, ne_WorkQueue__leave__failures, ne_WorkQueue__delay__most, ne_WorkQueue__delay__waiting, ne_WorkQueue__delay__working, ne_WorkQueue__delay__ticks, ne_WorkQueue__delay__failures, ne_WorkQueue_waiting__most, ne_WorkQueue_waiting__waiting, ne_WorkQueue_waiting__working, ne_WorkQueue_waiting__ticks, ne_WorkQueue_waiting__failures, ne_WorkQueue_in_work__most, ne_WorkQueue_in_work__waiting, ne_WorkQueue_in_work__working, ne_WorkQueue_in_work__ticks, ne_WorkQueue_in_work__failures, ne_WorkQueue_delayed__most, ne_WorkQueue_delayed__waiting, ne_WorkQueue_delayed__working, ne_WorkQueue_delayed__ticks, ne_WorkQueue_delayed__failures, ne_WorkQueue_failures__most, ne_WorkQueue_failures__waiting, ne_WorkQueue_failures__working, ne_WorkQueue_failures__ticks, ne_WorkQueue_failures__failures, ne_WorkQueue__most__waiting_p, ne_WorkQueue__most__working_p, ne_WorkQueue__most__ticks_p, ne_WorkQueue__most__failures_p, ne_WorkQueue__waiting__most_p, ne_WorkQueue__waiting__working_p, ne_WorkQueue__waiting__ticks_p, ne_WorkQueue__waiting__failures_p, ne_WorkQueue__working__most_p, ne_WorkQueue__working__waiting_p, ne_WorkQueue__working__ticks_p, ne_WorkQueue__working__failures_p, ne_WorkQueue__ticks__most_p, ne_WorkQueue__ticks__waiting_p, ne_WorkQueue__ticks__working_p, ne_WorkQueue__ticks__failures_p, ne_WorkQueue__failures__most_p, ne_WorkQueue__failures__waiting_p, ne_WorkQueue__failures__working_p, ne_WorkQueue__failures__ticks_p, ne_WorkQueue_add__most_p, ne_WorkQueue_add__waiting_p, ne_WorkQueue_add__working_p, ne_WorkQueue_add__ticks_p, ne_WorkQueue_add__failures_p, ne_WorkQueue_add_later__most_p, ne_WorkQueue_add_later__waiting_p, ne_WorkQueue_add_later__working_p, ne_WorkQueue_add_later__ticks_p, ne_WorkQueue_add_later__failures_p, ne_WorkQueue_tick__most_p, ne_WorkQueue_tick__waiting_p, ne_WorkQueue_tick__working_p, ne_WorkQueue_tick__ticks_p, ne_WorkQueue_tick__failures_p, ne_WorkQueue_take__most_p, ne_WorkQueue_take__waiting_p, ne_WorkQueue_take__working_p, ne_WorkQueue_take__ticks_p, ne_WorkQueue_take__failures_p, ne_WorkQueue_finish__most_p, ne_WorkQueue_finish__waiting_p, ne_WorkQueue_finish__working_p, ne_WorkQueue_finish__ticks_p, ne_WorkQueue_finish__failures_p, ne_WorkQueue_fail__most_p, ne_WorkQueue_fail__waiting_p, ne_WorkQueue_fail__working_p, ne_WorkQueue_fail__ticks_p, ne_WorkQueue_fail__failures_p, ne_WorkQueue__leave__most_p, ne_WorkQueue__leave__waiting_p, ne_WorkQueue__leave__working_p, ne_WorkQueue__leave__ticks_p, ne_WorkQueue__leave__failures_p, ne_WorkQueue__delay__most_p, ne_WorkQueue__delay__waiting_p, ne_WorkQueue__delay__working_p, ne_WorkQueue__delay__ticks_p, ne_WorkQueue__delay__failures_p, ne_WorkQueue_waiting__most_p, ne_WorkQueue_waiting__waiting_p, ne_WorkQueue_waiting__working_p, ne_WorkQueue_waiting__ticks_p, ne_WorkQueue_waiting__failures_p, ne_WorkQueue_in_work__most_p, ne_WorkQueue_in_work__waiting_p, ne_WorkQueue_in_work__working_p, ne_WorkQueue_in_work__ticks_p, ne_WorkQueue_in_work__failures_p, ne_WorkQueue_delayed__most_p, ne_WorkQueue_delayed__waiting_p, ne_WorkQueue_delayed__working_p, ne_WorkQueue_delayed__ticks_p, ne_WorkQueue_delayed__failures_p, ne_WorkQueue_failures__most_p, ne_WorkQueue_failures__waiting_p, ne_WorkQueue_failures__working_p, ne_WorkQueue_failures__ticks_p, ne_WorkQueue_failures__failures_p]
theorem fl_WorkQueue_no_add {v0 v1 v2 v3 v4 : V} : (fl_WorkQueue v0 v1 v2 v3 v4).lookup ("add" : Str) = none := by unfold fl_WorkQueue; simp [List.lookup, ne_WorkQueue__most__waiting, ne_WorkQueue__most__working, ne_WorkQueue__most__ticks, ne_WorkQueue__most__failures, ne_WorkQueue__waiting__most, ne_WorkQueue__waiting__working, ne_WorkQueue__waiting__ticks, ne_WorkQueue__waiting__failures, ne_WorkQueue__working__most, ne_WorkQueue__working__waiting, ne_WorkQueue__working__ticks, ne_WorkQueue__working__failures, ne_WorkQueue__ticks__most, ne_WorkQueue__ticks__waiting, ne_WorkQueue__ticks__working, ne_WorkQueue__ticks__failures, ne_WorkQueue__failures__most, ne_WorkQueue__failures__waiting, ne_WorkQueue__failures__working, ne_WorkQueue__failures__ticks, ne_WorkQueue_add__most, ne_WorkQueue_add__waiting, ne_WorkQueue_add__working, ne_WorkQueue_add__ticks, ne_WorkQueue_add__failures, ne_WorkQueue_add_later__most, ne_WorkQueue_add_later__waiting, ne_WorkQueue_add_later__working, ne_WorkQueue_add_later__ticks, ne_WorkQueue_add_later__failures, ne_WorkQueue_tick__most, ne_WorkQueue_tick__waiting, ne_WorkQueue_tick__working, ne_WorkQueue_tick__ticks, ne_WorkQueue_tick__failures, ne_WorkQueue_take__most, ne_WorkQueue_take__waiting, ne_WorkQueue_take__working, ne_WorkQueue_take__ticks, ne_WorkQueue_take__failures, ne_WorkQueue_finish__most, ne_WorkQueue_finish__waiting, ne_WorkQueue_finish__working, ne_WorkQueue_finish__ticks, ne_WorkQueue_finish__failures, ne_WorkQueue_fail__most, ne_WorkQueue_fail__waiting, ne_WorkQueue_fail__working, ne_WorkQueue_fail__ticks, ne_WorkQueue_fail__failures, ne_WorkQueue__leave__most, ne_WorkQueue__leave__waiting, ne_WorkQueue__leave__working, ne_WorkQueue__leave__ticks, ne_WorkQueue__leave__failures, ne_WorkQueue__delay__most, ne_WorkQueue__delay__waiting, ne_WorkQueue__delay__working, ne_WorkQueue__delay__ticks, ne_WorkQueue__delay__failures, ne_WorkQueue_waiting__most, ne_WorkQueue_waiting__waiting, ne_WorkQueue_waiting__working, ne_WorkQueue_waiting__ticks, ne_WorkQueue_waiting__failures, ne_WorkQueue_in_work__most, ne_WorkQueue_in_work__waiting, ne_WorkQueue_in_work__working, ne_WorkQueue_in_work__ticks, ne_WorkQueue_in_work__failures, ne_WorkQueue_delayed__most, ne_WorkQueue_delayed__waiting, ne_WorkQueue_delayed__working, ne_WorkQueue_delayed__ticks, ne_WorkQueue_delayed__failures, ne_WorkQueue_failures__most, ne_WorkQueue_failures__waiting, ne_WorkQueue_failures__working, ne_WorkQueue_failures__ticks, ne_WorkQueue_failures__failures, ne_WorkQueue__most__waiting_p, ne_WorkQueue__most__working_p, ne_WorkQueue__most__ticks_p, ne_WorkQueue__most__failures_p, ne_WorkQueue__waiting__most_p, ne_WorkQueue__waiting__working_p, ne_WorkQueue__waiting__ticks_p, ne_WorkQueue__waiting__failures_p, ne_WorkQueue__working__most_p, ne_WorkQueue__working__waiting_p, ne_WorkQueue__working__ticks_p, ne_WorkQueue__working__failures_p, ne_WorkQueue__ticks__most_p, ne_WorkQueue__ticks__waiting_p, ne_WorkQueue__ticks__working_p, ne_WorkQueue__ticks__failures_p, ne_WorkQueue__failures__most_p, ne_WorkQueue__failures__waiting_p, ne_WorkQueue__failures__working_p, ne_WorkQueue__failures__ticks_p, ne_WorkQueue_add__most_p, ne_WorkQueue_add__waiting_p, ne_WorkQueue_add__working_p, ne_WorkQueue_add__ticks_p, ne_WorkQueue_add__failures_p, ne_WorkQueue_add_later__most_p, ne_WorkQueue_add_later__waiting_p, ne_WorkQueue_add_later__working_p, ne_WorkQueue_add_later__ticks_p, ne_WorkQueue_add_later__failures_p, ne_WorkQueue_tick__most_p, ne_WorkQueue_tick__waiting_p, ne_WorkQueue_tick__working_p, ne_WorkQueue_tick__ticks_p, ne_WorkQueue_tick__failures_p, ne_WorkQueue_take__most_p, ne_WorkQueue_take__waiting_p, ne_WorkQueue_take__working_p, ne_WorkQueue_take__ticks_p, ne_WorkQueue_take__failures_p, ne_WorkQueue_finish__most_p, ne_WorkQueue_finish__waiting_p, ne_WorkQueue_finish__working_p, ne_WorkQueue_finish__ticks_p, ne_WorkQueue_finish__failures_p, ne_WorkQueue_fail__most_p, ne_WorkQueue_fail__waiting_p, ne_WorkQueue_fail__working_p, ne_WorkQueue_fail__ticks_p, ne_WorkQueue_fail__failures_p, ne_WorkQueue__leave__most_p, ne_WorkQueue__leave__waiting_p, ne_WorkQueue__leave__working_p, ne_WorkQueue__leave__ticks_p, ne_WorkQueue__leave__failures_p, ne_WorkQueue__delay__most_p, ne_WorkQueue__delay__waiting_p, ne_WorkQueue__delay__working_p, ne_WorkQueue__delay__ticks_p, ne_WorkQueue__delay__failures_p, ne_WorkQueue_waiting__most_p, ne_WorkQueue_waiting__waiting_p, ne_WorkQueue_waiting__working_p, ne_WorkQueue_waiting__ticks_p, ne_WorkQueue_waiting__failures_p, ne_WorkQueue_in_work__most_p, ne_WorkQueue_in_work__waiting_p, ne_WorkQueue_in_work__working_p, ne_WorkQueue_in_work__ticks_p, ne_WorkQueue_in_work__failures_p, ne_WorkQueue_delayed__most_p, ne_WorkQueue_delayed__waiting_p, ne_WorkQueue_delayed__working_p, ne_WorkQueue_delayed__ticks_p, ne_WorkQueue_delayed__failures_p, ne_WorkQueue_failures__most_p, ne_WorkQueue_failures__waiting_p, ne_WorkQueue_failures__working_p, ne_WorkQueue_failures__ticks_p, ne_WorkQueue_failures__failures_p]
theorem fl_WorkQueue_no_add_later {v0 v1 v2 v3 v4 : V} : (fl_WorkQueue v0 v1 v2 v3 v4).lookup ("add_later" : Str) = none := by unfold fl_WorkQueue; simp [List.lookup, ne_WorkQueue__most__waiting, ne_WorkQueue__most__working, ne_WorkQueue__most__ticks, ne_WorkQueue__most__failures, ne_WorkQueue__waiting__most, ne_WorkQueue__waiting__working, ne_WorkQueue__waiting__ticks, ne_WorkQueue__waiting__failures, ne_WorkQueue__working__most, ne_WorkQueue__working__waiting, ne_WorkQueue__working__ticks, ne_WorkQueue__working__failures, ne_WorkQueue__ticks__most, ne_WorkQueue__ticks__waiting, ne_WorkQueue__ticks__working, ne_WorkQueue__ticks__failures, ne_WorkQueue__failures__most, ne_WorkQueue__failures__waiting, ne_WorkQueue__failures__working, ne_WorkQueue__failures__ticks, ne_WorkQueue_add__most, ne_WorkQueue_add__waiting, ne_WorkQueue_add__working, ne_WorkQueue_add__ticks, ne_WorkQueue_add__failures, ne_WorkQueue_add_later__most, ne_WorkQueue_add_later__waiting, ne_WorkQueue_add_later__working, ne_WorkQueue_add_later__ticks, ne_WorkQueue_add_later__failures, ne_WorkQueue_tick__most, ne_WorkQueue_tick__waiting, ne_WorkQueue_tick__working, ne_WorkQueue_tick__ticks, ne_WorkQueue_tick__failures, ne_WorkQueue_take__most, ne_WorkQueue_take__waiting, ne_WorkQueue_take__working, ne_WorkQueue_take__ticks, ne_WorkQueue_take__failures, ne_WorkQueue_finish__most, ne_WorkQueue_finish__waiting, ne_WorkQueue_finish__working, ne_WorkQueue_finish__ticks, ne_WorkQueue_finish__failures, ne_WorkQueue_fail__most, ne_WorkQueue_fail__waiting, ne_WorkQueue_fail__working, ne_WorkQueue_fail__ticks, ne_WorkQueue_fail__failures, ne_WorkQueue__leave__most, ne_WorkQueue__leave__waiting, ne_WorkQueue__leave__working, ne_WorkQueue__leave__ticks, ne_WorkQueue__leave__failures, ne_WorkQueue__delay__most, ne_WorkQueue__delay__waiting, ne_WorkQueue__delay__working, ne_WorkQueue__delay__ticks, ne_WorkQueue__delay__failures, ne_WorkQueue_waiting__most, ne_WorkQueue_waiting__waiting, ne_WorkQueue_waiting__working, ne_WorkQueue_waiting__ticks, ne_WorkQueue_waiting__failures, ne_WorkQueue_in_work__most, ne_WorkQueue_in_work__waiting, ne_WorkQueue_in_work__working, ne_WorkQueue_in_work__ticks, ne_WorkQueue_in_work__failures, ne_WorkQueue_delayed__most, ne_WorkQueue_delayed__waiting, ne_WorkQueue_delayed__working, ne_WorkQueue_delayed__ticks, ne_WorkQueue_delayed__failures, ne_WorkQueue_failures__most, ne_WorkQueue_failures__waiting, ne_WorkQueue_failures__working, ne_WorkQueue_failures__ticks, ne_WorkQueue_failures__failures, ne_WorkQueue__most__waiting_p, ne_WorkQueue__most__working_p, ne_WorkQueue__most__ticks_p, ne_WorkQueue__most__failures_p, ne_WorkQueue__waiting__most_p, ne_WorkQueue__waiting__working_p, ne_WorkQueue__waiting__ticks_p, ne_WorkQueue__waiting__failures_p, ne_WorkQueue__working__most_p, ne_WorkQueue__working__waiting_p, ne_WorkQueue__working__ticks_p, ne_WorkQueue__working__failures_p, ne_WorkQueue__ticks__most_p, ne_WorkQueue__ticks__waiting_p, ne_WorkQueue__ticks__working_p, ne_WorkQueue__ticks__failures_p, ne_WorkQueue__failures__most_p, ne_WorkQueue__failures__waiting_p, ne_WorkQueue__failures__working_p, ne_WorkQueue__failures__ticks_p, ne_WorkQueue_add__most_p, ne_WorkQueue_add__waiting_p, ne_WorkQueue_add__working_p, ne_WorkQueue_add__ticks_p, ne_WorkQueue_add__failures_p, ne_WorkQueue_add_later__most_p, ne_WorkQueue_add_later__waiting_p, ne_WorkQueue_add_later__working_p, ne_WorkQueue_add_later__ticks_p, ne_WorkQueue_add_later__failures_p, ne_WorkQueue_tick__most_p, ne_WorkQueue_tick__waiting_p, ne_WorkQueue_tick__working_p, ne_WorkQueue_tick__ticks_p, ne_WorkQueue_tick__failures_p, ne_WorkQueue_take__most_p, ne_WorkQueue_take__waiting_p, ne_WorkQueue_take__working_p, ne_WorkQueue_take__ticks_p, ne_WorkQueue_take__failures_p, ne_WorkQueue_finish__most_p, ne_WorkQueue_finish__waiting_p, ne_WorkQueue_finish__working_p, ne_WorkQueue_finish__ticks_p, ne_WorkQueue_finish__failures_p, ne_WorkQueue_fail__most_p, ne_WorkQueue_fail__waiting_p, ne_WorkQueue_fail__working_p, ne_WorkQueue_fail__ticks_p, ne_WorkQueue_fail__failures_p, ne_WorkQueue__leave__most_p, ne_WorkQueue__leave__waiting_p, ne_WorkQueue__leave__working_p, ne_WorkQueue__leave__ticks_p, ne_WorkQueue__leave__failures_p, ne_WorkQueue__delay__most_p, ne_WorkQueue__delay__waiting_p, ne_WorkQueue__delay__working_p, ne_WorkQueue__delay__ticks_p, ne_WorkQueue__delay__failures_p, ne_WorkQueue_waiting__most_p, ne_WorkQueue_waiting__waiting_p, ne_WorkQueue_waiting__working_p, ne_WorkQueue_waiting__ticks_p, ne_WorkQueue_waiting__failures_p, ne_WorkQueue_in_work__most_p, ne_WorkQueue_in_work__waiting_p, ne_WorkQueue_in_work__working_p, ne_WorkQueue_in_work__ticks_p, ne_WorkQueue_in_work__failures_p, ne_WorkQueue_delayed__most_p, ne_WorkQueue_delayed__waiting_p, ne_WorkQueue_delayed__working_p, ne_WorkQueue_delayed__ticks_p, ne_WorkQueue_delayed__failures_p, ne_WorkQueue_failures__most_p, ne_WorkQueue_failures__waiting_p, ne_WorkQueue_failures__working_p, ne_WorkQueue_failures__ticks_p, ne_WorkQueue_failures__failures_p]
theorem fl_WorkQueue_no_tick {v0 v1 v2 v3 v4 : V} : (fl_WorkQueue v0 v1 v2 v3 v4).lookup ("tick" : Str) = none := by unfold fl_WorkQueue; simp [List.lookup, ne_WorkQueue__most__waiting, ne_WorkQueue__most__working, ne_WorkQueue__most__ticks, ne_WorkQueue__most__failures, ne_WorkQueue__waiting__most, ne_WorkQueue__waiting__working, ne_WorkQueue__waiting__ticks, ne_WorkQueue__waiting__failures, ne_WorkQueue__working__most, ne_WorkQueue__working__waiting, ne_WorkQueue__working__ticks, ne_WorkQueue__working__failures, ne_WorkQueue__ticks__most, ne_WorkQueue__ticks__waiting, ne_WorkQueue__ticks__working, ne_WorkQueue__ticks__failures, ne_WorkQueue__failures__most, ne_WorkQueue__failures__waiting, ne_WorkQueue__failures__working, ne_WorkQueue__failures__ticks, ne_WorkQueue_add__most, ne_WorkQueue_add__waiting, ne_WorkQueue_add__working, ne_WorkQueue_add__ticks, ne_WorkQueue_add__failures, ne_WorkQueue_add_later__most, ne_WorkQueue_add_later__waiting, ne_WorkQueue_add_later__working, ne_WorkQueue_add_later__ticks, ne_WorkQueue_add_later__failures, ne_WorkQueue_tick__most, ne_WorkQueue_tick__waiting, ne_WorkQueue_tick__working, ne_WorkQueue_tick__ticks, ne_WorkQueue_tick__failures, ne_WorkQueue_take__most, ne_WorkQueue_take__waiting, ne_WorkQueue_take__working, ne_WorkQueue_take__ticks, ne_WorkQueue_take__failures, ne_WorkQueue_finish__most, ne_WorkQueue_finish__waiting, ne_WorkQueue_finish__working, ne_WorkQueue_finish__ticks, ne_WorkQueue_finish__failures, ne_WorkQueue_fail__most, ne_WorkQueue_fail__waiting, ne_WorkQueue_fail__working, ne_WorkQueue_fail__ticks, ne_WorkQueue_fail__failures, ne_WorkQueue__leave__most, ne_WorkQueue__leave__waiting, ne_WorkQueue__leave__working, ne_WorkQueue__leave__ticks, ne_WorkQueue__leave__failures, ne_WorkQueue__delay__most, ne_WorkQueue__delay__waiting, ne_WorkQueue__delay__working, ne_WorkQueue__delay__ticks, ne_WorkQueue__delay__failures, ne_WorkQueue_waiting__most, ne_WorkQueue_waiting__waiting, ne_WorkQueue_waiting__working, ne_WorkQueue_waiting__ticks, ne_WorkQueue_waiting__failures, ne_WorkQueue_in_work__most, ne_WorkQueue_in_work__waiting, ne_WorkQueue_in_work__working, ne_WorkQueue_in_work__ticks, ne_WorkQueue_in_work__failures, ne_WorkQueue_delayed__most, ne_WorkQueue_delayed__waiting, ne_WorkQueue_delayed__working, ne_WorkQueue_delayed__ticks, ne_WorkQueue_delayed__failures, ne_WorkQueue_failures__most, ne_WorkQueue_failures__waiting, ne_WorkQueue_failures__working, ne_WorkQueue_failures__ticks, ne_WorkQueue_failures__failures, ne_WorkQueue__most__waiting_p, ne_WorkQueue__most__working_p, ne_WorkQueue__most__ticks_p, ne_WorkQueue__most__failures_p, ne_WorkQueue__waiting__most_p, ne_WorkQueue__waiting__working_p, ne_WorkQueue__waiting__ticks_p, ne_WorkQueue__waiting__failures_p, ne_WorkQueue__working__most_p, ne_WorkQueue__working__waiting_p, ne_WorkQueue__working__ticks_p, ne_WorkQueue__working__failures_p, ne_WorkQueue__ticks__most_p, ne_WorkQueue__ticks__waiting_p, ne_WorkQueue__ticks__working_p, ne_WorkQueue__ticks__failures_p, ne_WorkQueue__failures__most_p, ne_WorkQueue__failures__waiting_p, ne_WorkQueue__failures__working_p, ne_WorkQueue__failures__ticks_p, ne_WorkQueue_add__most_p, ne_WorkQueue_add__waiting_p, ne_WorkQueue_add__working_p, ne_WorkQueue_add__ticks_p, ne_WorkQueue_add__failures_p, ne_WorkQueue_add_later__most_p, ne_WorkQueue_add_later__waiting_p, ne_WorkQueue_add_later__working_p, ne_WorkQueue_add_later__ticks_p, ne_WorkQueue_add_later__failures_p, ne_WorkQueue_tick__most_p, ne_WorkQueue_tick__waiting_p, ne_WorkQueue_tick__working_p, ne_WorkQueue_tick__ticks_p, ne_WorkQueue_tick__failures_p, ne_WorkQueue_take__most_p, ne_WorkQueue_take__waiting_p, ne_WorkQueue_take__working_p, ne_WorkQueue_take__ticks_p, ne_WorkQueue_take__failures_p, ne_WorkQueue_finish__most_p, ne_WorkQueue_finish__waiting_p, ne_WorkQueue_finish__working_p, ne_WorkQueue_finish__ticks_p, ne_WorkQueue_finish__failures_p, ne_WorkQueue_fail__most_p, ne_WorkQueue_fail__waiting_p, ne_WorkQueue_fail__working_p, ne_WorkQueue_fail__ticks_p, ne_WorkQueue_fail__failures_p, ne_WorkQueue__leave__most_p, ne_WorkQueue__leave__waiting_p, ne_WorkQueue__leave__working_p, ne_WorkQueue__leave__ticks_p, ne_WorkQueue__leave__failures_p, ne_WorkQueue__delay__most_p, ne_WorkQueue__delay__waiting_p, ne_WorkQueue__delay__working_p, ne_WorkQueue__delay__ticks_p, ne_WorkQueue__delay__failures_p, ne_WorkQueue_waiting__most_p, ne_WorkQueue_waiting__waiting_p, ne_WorkQueue_waiting__working_p, ne_WorkQueue_waiting__ticks_p, ne_WorkQueue_waiting__failures_p, ne_WorkQueue_in_work__most_p, ne_WorkQueue_in_work__waiting_p, ne_WorkQueue_in_work__working_p, ne_WorkQueue_in_work__ticks_p, ne_WorkQueue_in_work__failures_p, ne_WorkQueue_delayed__most_p, ne_WorkQueue_delayed__waiting_p, ne_WorkQueue_delayed__working_p, ne_WorkQueue_delayed__ticks_p, ne_WorkQueue_delayed__failures_p, ne_WorkQueue_failures__most_p, ne_WorkQueue_failures__waiting_p, ne_WorkQueue_failures__working_p, ne_WorkQueue_failures__ticks_p, ne_WorkQueue_failures__failures_p]
theorem fl_WorkQueue_no_take {v0 v1 v2 v3 v4 : V} : (fl_WorkQueue v0 v1 v2 v3 v4).lookup ("take" : Str) = none := by unfold fl_WorkQueue; simp [List.lookup, ne_WorkQueue__most__waiting, ne_WorkQueue__most__working, ne_WorkQueue__most__ticks, ne_WorkQueue__most__failures, ne_WorkQueue__waiting__most, ne_WorkQueue__waiting__working, ne_WorkQueue__waiting__ticks, ne_WorkQueue__waiting__failures, ne_WorkQueue__working__most, ne_WorkQueue__working__waiting, ne_WorkQueue__working__ticks, ne_WorkQueue__working__failures, ne_WorkQueue__ticks__most, ne_WorkQueue__ticks__waiting, ne_WorkQueue__ticks__working, ne_WorkQueue__ticks__failures, ne_WorkQueue__failures__most, ne_WorkQueue__failures__waiting, ne_WorkQueue__failures__working, ne_WorkQueue__failures__ticks, ne_WorkQueue_add__most, ne_WorkQueue_add__waiting, ne_WorkQueue_add__working, ne_WorkQueue_add__ticks, ne_WorkQueue_add__failures, ne_WorkQueue_add_later__most, ne_WorkQueue_add_later__waiting, ne_WorkQueue_add_later__working, ne_WorkQueue_add_later__ticks, ne_WorkQueue_add_later__failures, ne_WorkQueue_tick__most, ne_WorkQueue_tick__waiting, ne_WorkQueue_tick__working, ne_WorkQueue_tick__ticks, ne_WorkQueue_tick__failures, ne_WorkQueue_take__most, ne_WorkQueue_take__waiting, ne_WorkQueue_take__working, ne_WorkQueue_take__ticks, ne_WorkQueue_take__failures, ne_WorkQueue_finish__most, ne_WorkQueue_finish__waiting, ne_WorkQueue_finish__working, ne_WorkQueue_finish__ticks, ne_WorkQueue_finish__failures, ne_WorkQueue_fail__most, ne_WorkQueue_fail__waiting, ne_WorkQueue_fail__working, ne_WorkQueue_fail__ticks, ne_WorkQueue_fail__failures, ne_WorkQueue__leave__most, ne_WorkQueue__leave__waiting, ne_WorkQueue__leave__working, ne_WorkQueue__leave__ticks, ne_WorkQueue__leave__failures, ne_WorkQueue__delay__most, ne_WorkQueue__delay__waiting, ne_WorkQueue__delay__working, ne_WorkQueue__delay__ticks, ne_WorkQueue__delay__failures, ne_WorkQueue_waiting__most, ne_WorkQueue_waiting__waiting, ne_WorkQueue_waiting__working, ne_WorkQueue_waiting__ticks, ne_WorkQueue_waiting__failures, ne_WorkQueue_in_work__most, ne_WorkQueue_in_work__waiting, ne_WorkQueue_in_work__working, ne_WorkQueue_in_work__ticks, ne_WorkQueue_in_work__failures, ne_WorkQueue_delayed__most, ne_WorkQueue_delayed__waiting, ne_WorkQueue_delayed__working, ne_WorkQueue_delayed__ticks, ne_WorkQueue_delayed__failures, ne_WorkQueue_failures__most, ne_WorkQueue_failures__waiting, ne_WorkQueue_failures__working, ne_WorkQueue_failures__ticks, ne_WorkQueue_failures__failures, ne_WorkQueue__most__waiting_p, ne_WorkQueue__most__working_p, ne_WorkQueue__most__ticks_p, ne_WorkQueue__most__failures_p, ne_WorkQueue__waiting__most_p, ne_WorkQueue__waiting__working_p, ne_WorkQueue__waiting__ticks_p, ne_WorkQueue__waiting__failures_p, ne_WorkQueue__working__most_p, ne_WorkQueue__working__waiting_p, ne_WorkQueue__working__ticks_p, ne_WorkQueue__working__failures_p, ne_WorkQueue__ticks__most_p, ne_WorkQueue__ticks__waiting_p, ne_WorkQueue__ticks__working_p, ne_WorkQueue__ticks__failures_p, ne_WorkQueue__failures__most_p, ne_WorkQueue__failures__waiting_p, ne_WorkQueue__failures__working_p, ne_WorkQueue__failures__ticks_p, ne_WorkQueue_add__most_p, ne_WorkQueue_add__waiting_p, ne_WorkQueue_add__working_p, ne_WorkQueue_add__ticks_p, ne_WorkQueue_add__failures_p, ne_WorkQueue_add_later__most_p, ne_WorkQueue_add_later__waiting_p, ne_WorkQueue_add_later__working_p, ne_WorkQueue_add_later__ticks_p, ne_WorkQueue_add_later__failures_p, ne_WorkQueue_tick__most_p, ne_WorkQueue_tick__waiting_p, ne_WorkQueue_tick__working_p, ne_WorkQueue_tick__ticks_p, ne_WorkQueue_tick__failures_p, ne_WorkQueue_take__most_p, ne_WorkQueue_take__waiting_p, ne_WorkQueue_take__working_p, ne_WorkQueue_take__ticks_p, ne_WorkQueue_take__failures_p, ne_WorkQueue_finish__most_p, ne_WorkQueue_finish__waiting_p, ne_WorkQueue_finish__working_p, ne_WorkQueue_finish__ticks_p, ne_WorkQueue_finish__failures_p, ne_WorkQueue_fail__most_p, ne_WorkQueue_fail__waiting_p, ne_WorkQueue_fail__working_p, ne_WorkQueue_fail__ticks_p, ne_WorkQueue_fail__failures_p, ne_WorkQueue__leave__most_p, ne_WorkQueue__leave__waiting_p, ne_WorkQueue__leave__working_p, ne_WorkQueue__leave__ticks_p, ne_WorkQueue__leave__failures_p, ne_WorkQueue__delay__most_p, ne_WorkQueue__delay__waiting_p, ne_WorkQueue__delay__working_p, ne_WorkQueue__delay__ticks_p, ne_WorkQueue__delay__failures_p, ne_WorkQueue_waiting__most_p, ne_WorkQueue_waiting__waiting_p, ne_WorkQueue_waiting__working_p, ne_WorkQueue_waiting__ticks_p, ne_WorkQueue_waiting__failures_p, ne_WorkQueue_in_work__most_p, ne_WorkQueue_in_work__waiting_p, ne_WorkQueue_in_work__working_p, ne_WorkQueue_in_work__ticks_p, ne_WorkQueue_in_work__failures_p, ne_WorkQueue_delayed__most_p, ne_WorkQueue_delayed__waiting_p, ne_WorkQueue_delayed__working_p, ne_WorkQueue_delayed__ticks_p, ne_WorkQueue_delayed__failures_p, ne_WorkQueue_failures__most_p, ne_WorkQueue_failures__waiting_p, ne_WorkQueue_failures__working_p, ne_WorkQueue_failures__ticks_p, ne_WorkQueue_failures__failures_p]
theorem fl_WorkQueue_no_finish {v0 v1 v2 v3 v4 : V} : (fl_WorkQueue v0 v1 v2 v3 v4).lookup ("finish" : Str) = none := by unfold fl_WorkQueue; simp [List.lookup, ne_WorkQueue__most__waiting, ne_WorkQueue__most__working, ne_WorkQueue__most__ticks, ne_WorkQueue__most__failures, ne_WorkQueue__waiting__most, ne_WorkQueue__waiting__working, ne_WorkQueue__waiting__ticks, ne_WorkQueue__waiting__failures, ne_WorkQueue__working__most, ne_WorkQueue__working__waiting, ne_WorkQueue__working__ticks, ne_WorkQueue__working__failures, ne_WorkQueue__ticks__most, ne_WorkQueue__ticks__waiting, ne_WorkQueue__ticks__working, ne_WorkQueue__ticks__failures, ne_WorkQueue__failures__most, ne_WorkQueue__failures__waiting, ne_WorkQueue__failures__working, ne_WorkQueue__failures__ticks, ne_WorkQueue_add__most, ne_WorkQueue_add__waiting, ne_WorkQueue_add__working, ne_WorkQueue_add__ticks, ne_WorkQueue_add__failures, ne_WorkQueue_add_later__most, ne_WorkQueue_add_later__waiting, ne_WorkQueue_add_later__working, ne_WorkQueue_add_later__ticks, ne_WorkQueue_add_later__failures, ne_WorkQueue_tick__most, ne_WorkQueue_tick__waiting, ne_WorkQueue_tick__working, ne_WorkQueue_tick__ticks, ne_WorkQueue_tick__failures, ne_WorkQueue_take__most, ne_WorkQueue_take__waiting, ne_WorkQueue_take__working, ne_WorkQueue_take__ticks, ne_WorkQueue_take__failures, ne_WorkQueue_finish__most, ne_WorkQueue_finish__waiting, ne_WorkQueue_finish__working, ne_WorkQueue_finish__ticks, ne_WorkQueue_finish__failures, ne_WorkQueue_fail__most, ne_WorkQueue_fail__waiting, ne_WorkQueue_fail__working, ne_WorkQueue_fail__ticks, ne_WorkQueue_fail__failures, ne_WorkQueue__leave__most, ne_WorkQueue__leave__waiting, ne_WorkQueue__leave__working, ne_WorkQueue__leave__ticks, ne_WorkQueue__leave__failures, ne_WorkQueue__delay__most, ne_WorkQueue__delay__waiting, ne_WorkQueue__delay__working, ne_WorkQueue__delay__ticks, ne_WorkQueue__delay__failures, ne_WorkQueue_waiting__most, ne_WorkQueue_waiting__waiting, ne_WorkQueue_waiting__working, ne_WorkQueue_waiting__ticks, ne_WorkQueue_waiting__failures, ne_WorkQueue_in_work__most, ne_WorkQueue_in_work__waiting, ne_WorkQueue_in_work__working, ne_WorkQueue_in_work__ticks, ne_WorkQueue_in_work__failures, ne_WorkQueue_delayed__most, ne_WorkQueue_delayed__waiting, ne_WorkQueue_delayed__working, ne_WorkQueue_delayed__ticks, ne_WorkQueue_delayed__failures, ne_WorkQueue_failures__most, ne_WorkQueue_failures__waiting, ne_WorkQueue_failures__working, ne_WorkQueue_failures__ticks, ne_WorkQueue_failures__failures, ne_WorkQueue__most__waiting_p, ne_WorkQueue__most__working_p, ne_WorkQueue__most__ticks_p, ne_WorkQueue__most__failures_p, ne_WorkQueue__waiting__most_p, ne_WorkQueue__waiting__working_p, ne_WorkQueue__waiting__ticks_p, ne_WorkQueue__waiting__failures_p, ne_WorkQueue__working__most_p, ne_WorkQueue__working__waiting_p, ne_WorkQueue__working__ticks_p, ne_WorkQueue__working__failures_p, ne_WorkQueue__ticks__most_p, ne_WorkQueue__ticks__waiting_p, ne_WorkQueue__ticks__working_p, ne_WorkQueue__ticks__failures_p, ne_WorkQueue__failures__most_p, ne_WorkQueue__failures__waiting_p, ne_WorkQueue__failures__working_p, ne_WorkQueue__failures__ticks_p, ne_WorkQueue_add__most_p, ne_WorkQueue_add__waiting_p, ne_WorkQueue_add__working_p, ne_WorkQueue_add__ticks_p, ne_WorkQueue_add__failures_p, ne_WorkQueue_add_later__most_p, ne_WorkQueue_add_later__waiting_p, ne_WorkQueue_add_later__working_p, ne_WorkQueue_add_later__ticks_p, ne_WorkQueue_add_later__failures_p, ne_WorkQueue_tick__most_p, ne_WorkQueue_tick__waiting_p, ne_WorkQueue_tick__working_p, ne_WorkQueue_tick__ticks_p, ne_WorkQueue_tick__failures_p, ne_WorkQueue_take__most_p, ne_WorkQueue_take__waiting_p, ne_WorkQueue_take__working_p, ne_WorkQueue_take__ticks_p, ne_WorkQueue_take__failures_p, ne_WorkQueue_finish__most_p, ne_WorkQueue_finish__waiting_p, ne_WorkQueue_finish__working_p, ne_WorkQueue_finish__ticks_p, ne_WorkQueue_finish__failures_p, ne_WorkQueue_fail__most_p, ne_WorkQueue_fail__waiting_p, ne_WorkQueue_fail__working_p, ne_WorkQueue_fail__ticks_p, ne_WorkQueue_fail__failures_p, ne_WorkQueue__leave__most_p, ne_WorkQueue__leave__waiting_p, ne_WorkQueue__leave__working_p, ne_WorkQueue__leave__ticks_p, ne_WorkQueue__leave__failures_p, ne_WorkQueue__delay__most_p, ne_WorkQueue__delay__waiting_p, ne_WorkQueue__delay__working_p, ne_WorkQueue__delay__ticks_p, ne_WorkQueue__delay__failures_p, ne_WorkQueue_waiting__most_p, ne_WorkQueue_waiting__waiting_p, ne_WorkQueue_waiting__working_p, ne_WorkQueue_waiting__ticks_p, ne_WorkQueue_waiting__failures_p, ne_WorkQueue_in_work__most_p, ne_WorkQueue_in_work__waiting_p, ne_WorkQueue_in_work__working_p, ne_WorkQueue_in_work__ticks_p, ne_WorkQueue_in_work__failures_p, ne_WorkQueue_delayed__most_p, ne_WorkQueue_delayed__waiting_p, ne_WorkQueue_delayed__working_p, ne_WorkQueue_delayed__ticks_p, ne_WorkQueue_delayed__failures_p, ne_WorkQueue_failures__most_p, ne_WorkQueue_failures__waiting_p, ne_WorkQueue_failures__working_p, ne_WorkQueue_failures__ticks_p, ne_WorkQueue_failures__failures_p]
theorem fl_WorkQueue_no_fail {v0 v1 v2 v3 v4 : V} : (fl_WorkQueue v0 v1 v2 v3 v4).lookup ("fail" : Str) = none := by unfold fl_WorkQueue; simp [List.lookup, ne_WorkQueue__most__waiting, ne_WorkQueue__most__working, ne_WorkQueue__most__ticks, ne_WorkQueue__most__failures, ne_WorkQueue__waiting__most, ne_WorkQueue__waiting__working, ne_WorkQueue__waiting__ticks, ne_WorkQueue__waiting__failures, ne_WorkQueue__working__most, ne_WorkQueue__working__waiting, ne_WorkQueue__working__ticks, ne_WorkQueue__working__failures, ne_WorkQueue__ticks__most, ne_WorkQueue__ticks__waiting, ne_WorkQueue__ticks__working, ne_WorkQueue__ticks__failures, ne_WorkQueue__failures__most, ne_WorkQueue__failures__waiting, ne_WorkQueue__failures__working, ne_WorkQueue__failures__ticks, ne_WorkQueue_add__most, ne_WorkQueue_add__waiting, ne_WorkQueue_add__working, ne_WorkQueue_add__ticks, ne_WorkQueue_add__failures, ne_WorkQueue_add_later__most, ne_WorkQueue_add_later__waiting, ne_WorkQueue_add_later__working, ne_WorkQueue_add_later__ticks, ne_WorkQueue_add_later__failures, ne_WorkQueue_tick__most, ne_WorkQueue_tick__waiting, ne_WorkQueue_tick__working, ne_WorkQueue_tick__ticks, ne_WorkQueue_tick__failures, ne_WorkQueue_take__most, ne_WorkQueue_take__waiting, ne_WorkQueue_take__working, ne_WorkQueue_take__ticks, ne_WorkQueue_take__failures, ne_WorkQueue_finish__most, ne_WorkQueue_finish__waiting, ne_WorkQueue_finish__working, ne_WorkQueue_finish__ticks, ne_WorkQueue_finish__failures, ne_WorkQueue_fail__most, ne_WorkQueue_fail__waiting, ne_WorkQueue_fail__working, ne_WorkQueue_fail__ticks, ne_WorkQueue_fail__failures, ne_WorkQueue__leave__most, ne_WorkQueue__leave__waiting, ne_WorkQueue__leave__working, ne_WorkQueue__leave__ticks, ne_WorkQueue__leave__failures, ne_WorkQueue__delay__most, ne_WorkQueue__delay__waiting, ne_WorkQueue__delay__working, ne_WorkQueue__delay__ticks, ne_WorkQueue__delay__failures, ne_WorkQueue_waiting__most, ne_WorkQueue_waiting__waiting, ne_WorkQueue_waiting__working, ne_WorkQueue_waiting__ticks, ne_WorkQueue_waiting__failures, ne_WorkQueue_in_work__most, ne_WorkQueue_in_work__waiting, ne_WorkQueue_in_work__working, ne_WorkQueue_in_work__ticks, ne_WorkQueue_in_work__failures, ne_WorkQueue_delayed__most, ne_WorkQueue_delayed__waiting, ne_WorkQueue_delayed__working, ne_WorkQueue_delayed__ticks, ne_WorkQueue_delayed__failures, ne_WorkQueue_failures__most, ne_WorkQueue_failures__waiting, ne_WorkQueue_failures__working, ne_WorkQueue_failures__ticks, ne_WorkQueue_failures__failures, ne_WorkQueue__most__waiting_p, ne_WorkQueue__most__working_p, ne_WorkQueue__most__ticks_p, ne_WorkQueue__most__failures_p, ne_WorkQueue__waiting__most_p, ne_WorkQueue__waiting__working_p, ne_WorkQueue__waiting__ticks_p, ne_WorkQueue__waiting__failures_p, ne_WorkQueue__working__most_p, ne_WorkQueue__working__waiting_p, ne_WorkQueue__working__ticks_p, ne_WorkQueue__working__failures_p, ne_WorkQueue__ticks__most_p, ne_WorkQueue__ticks__waiting_p, ne_WorkQueue__ticks__working_p, ne_WorkQueue__ticks__failures_p, ne_WorkQueue__failures__most_p, ne_WorkQueue__failures__waiting_p, ne_WorkQueue__failures__working_p, ne_WorkQueue__failures__ticks_p, ne_WorkQueue_add__most_p, ne_WorkQueue_add__waiting_p, ne_WorkQueue_add__working_p, ne_WorkQueue_add__ticks_p, ne_WorkQueue_add__failures_p, ne_WorkQueue_add_later__most_p, ne_WorkQueue_add_later__waiting_p, ne_WorkQueue_add_later__working_p, ne_WorkQueue_add_later__ticks_p, ne_WorkQueue_add_later__failures_p, ne_WorkQueue_tick__most_p, ne_WorkQueue_tick__waiting_p, ne_WorkQueue_tick__working_p, ne_WorkQueue_tick__ticks_p, ne_WorkQueue_tick__failures_p, ne_WorkQueue_take__most_p, ne_WorkQueue_take__waiting_p, ne_WorkQueue_take__working_p, ne_WorkQueue_take__ticks_p, ne_WorkQueue_take__failures_p, ne_WorkQueue_finish__most_p, ne_WorkQueue_finish__waiting_p, ne_WorkQueue_finish__working_p, ne_WorkQueue_finish__ticks_p, ne_WorkQueue_finish__failures_p, ne_WorkQueue_fail__most_p, ne_WorkQueue_fail__waiting_p, ne_WorkQueue_fail__working_p, ne_WorkQueue_fail__ticks_p, ne_WorkQueue_fail__failures_p, ne_WorkQueue__leave__most_p, ne_WorkQueue__leave__waiting_p, ne_WorkQueue__leave__working_p, ne_WorkQueue__leave__ticks_p, ne_WorkQueue__leave__failures_p, ne_WorkQueue__delay__most_p, ne_WorkQueue__delay__waiting_p, ne_WorkQueue__delay__working_p, ne_WorkQueue__delay__ticks_p, ne_WorkQueue__delay__failures_p, ne_WorkQueue_waiting__most_p, ne_WorkQueue_waiting__waiting_p, ne_WorkQueue_waiting__working_p, ne_WorkQueue_waiting__ticks_p, ne_WorkQueue_waiting__failures_p, ne_WorkQueue_in_work__most_p, ne_WorkQueue_in_work__waiting_p, ne_WorkQueue_in_work__working_p, ne_WorkQueue_in_work__ticks_p, ne_WorkQueue_in_work__failures_p, ne_WorkQueue_delayed__most_p, ne_WorkQueue_delayed__waiting_p, ne_WorkQueue_delayed__working_p, ne_WorkQueue_delayed__ticks_p, ne_WorkQueue_delayed__failures_p, ne_WorkQueue_failures__most_p, ne_WorkQueue_failures__waiting_p, ne_WorkQueue_failures__working_p, ne_WorkQueue_failures__ticks_p, ne_WorkQueue_failures__failures_p]
theorem fl_WorkQueue_no__leave {v0 v1 v2 v3 v4 : V} : (fl_WorkQueue v0 v1 v2 v3 v4).lookup ("_leave" : Str) = none := by unfold fl_WorkQueue; simp [List.lookup, ne_WorkQueue__most__waiting, ne_WorkQueue__most__working, ne_WorkQueue__most__ticks, ne_WorkQueue__most__failures, ne_WorkQueue__waiting__most, ne_WorkQueue__waiting__working, ne_WorkQueue__waiting__ticks, ne_WorkQueue__waiting__failures, ne_WorkQueue__working__most, ne_WorkQueue__working__waiting, ne_WorkQueue__working__ticks, ne_WorkQueue__working__failures, ne_WorkQueue__ticks__most, ne_WorkQueue__ticks__waiting, ne_WorkQueue__ticks__working, ne_WorkQueue__ticks__failures, ne_WorkQueue__failures__most, ne_WorkQueue__failures__waiting, ne_WorkQueue__failures__working, ne_WorkQueue__failures__ticks, ne_WorkQueue_add__most, ne_WorkQueue_add__waiting, ne_WorkQueue_add__working, ne_WorkQueue_add__ticks, ne_WorkQueue_add__failures, ne_WorkQueue_add_later__most, ne_WorkQueue_add_later__waiting, ne_WorkQueue_add_later__working, ne_WorkQueue_add_later__ticks, ne_WorkQueue_add_later__failures, ne_WorkQueue_tick__most, ne_WorkQueue_tick__waiting, ne_WorkQueue_tick__working, ne_WorkQueue_tick__ticks, ne_WorkQueue_tick__failures, ne_WorkQueue_take__most, ne_WorkQueue_take__waiting, ne_WorkQueue_take__working, ne_WorkQueue_take__ticks, ne_WorkQueue_take__failures, ne_WorkQueue_finish__most, ne_WorkQueue_finish__waiting, ne_WorkQueue_finish__working, ne_WorkQueue_finish__ticks, ne_WorkQueue_finish__failures, ne_WorkQueue_fail__most, ne_WorkQueue_fail__waiting, ne_WorkQueue_fail__working, ne_WorkQueue_fail__ticks, ne_WorkQueue_fail__failures, ne_WorkQueue__leave__most, ne_WorkQueue__leave__waiting, ne_WorkQueue__leave__working, ne_WorkQueue__leave__ticks, ne_WorkQueue__leave__failures, ne_WorkQueue__delay__most, ne_WorkQueue__delay__waiting, ne_WorkQueue__delay__working, ne_WorkQueue__delay__ticks, ne_WorkQueue__delay__failures, ne_WorkQueue_waiting__most, ne_WorkQueue_waiting__waiting, ne_WorkQueue_waiting__working, ne_WorkQueue_waiting__ticks, ne_WorkQueue_waiting__failures, ne_WorkQueue_in_work__most, ne_WorkQueue_in_work__waiting, ne_WorkQueue_in_work__working, ne_WorkQueue_in_work__ticks, ne_WorkQueue_in_work__failures, ne_WorkQueue_delayed__most, ne_WorkQueue_delayed__waiting, ne_WorkQueue_delayed__working, ne_WorkQueue_delayed__ticks, ne_WorkQueue_delayed__failures, ne_WorkQueue_failures__most, ne_WorkQueue_failures__waiting, ne_WorkQueue_failures__working, ne_WorkQueue_failures__ticks, ne_WorkQueue_failures__failures, ne_WorkQueue__most__waiting_p, ne_WorkQueue__most__working_p, ne_WorkQueue__most__ticks_p, ne_WorkQueue__most__failures_p, ne_WorkQueue__waiting__most_p, ne_WorkQueue__waiting__working_p, ne_WorkQueue__waiting__ticks_p, ne_WorkQueue__waiting__failures_p, ne_WorkQueue__working__most_p, ne_WorkQueue__working__waiting_p, ne_WorkQueue__working__ticks_p, ne_WorkQueue__working__failures_p, ne_WorkQueue__ticks__most_p, ne_WorkQueue__ticks__waiting_p, ne_WorkQueue__ticks__working_p, ne_WorkQueue__ticks__failures_p, ne_WorkQueue__failures__most_p, ne_WorkQueue__failures__waiting_p, ne_WorkQueue__failures__working_p, ne_WorkQueue__failures__ticks_p, ne_WorkQueue_add__most_p, ne_WorkQueue_add__waiting_p, ne_WorkQueue_add__working_p, ne_WorkQueue_add__ticks_p, ne_WorkQueue_add__failures_p, ne_WorkQueue_add_later__most_p, ne_WorkQueue_add_later__waiting_p, ne_WorkQueue_add_later__working_p, ne_WorkQueue_add_later__ticks_p, ne_WorkQueue_add_later__failures_p, ne_WorkQueue_tick__most_p, ne_WorkQueue_tick__waiting_p, ne_WorkQueue_tick__working_p, ne_WorkQueue_tick__ticks_p, ne_WorkQueue_tick__failures_p, ne_WorkQueue_take__most_p, ne_WorkQueue_take__waiting_p, ne_WorkQueue_take__working_p, ne_WorkQueue_take__ticks_p, ne_WorkQueue_take__failures_p, ne_WorkQueue_finish__most_p, ne_WorkQueue_finish__waiting_p, ne_WorkQueue_finish__working_p, ne_WorkQueue_finish__ticks_p, ne_WorkQueue_finish__failures_p, ne_WorkQueue_fail__most_p, ne_WorkQueue_fail__waiting_p, ne_WorkQueue_fail__working_p, ne_WorkQueue_fail__ticks_p, ne_WorkQueue_fail__failures_p, ne_WorkQueue__leave__most_p, ne_WorkQueue__leave__waiting_p, ne_WorkQueue__leave__working_p, ne_WorkQueue__leave__ticks_p, ne_WorkQueue__leave__failures_p, ne_WorkQueue__delay__most_p, ne_WorkQueue__delay__waiting_p, ne_WorkQueue__delay__working_p, ne_WorkQueue__delay__ticks_p, ne_WorkQueue__delay__failures_p, ne_WorkQueue_waiting__most_p, ne_WorkQueue_waiting__waiting_p, ne_WorkQueue_waiting__working_p, ne_WorkQueue_waiting__ticks_p, ne_WorkQueue_waiting__failures_p, ne_WorkQueue_in_work__most_p, ne_WorkQueue_in_work__waiting_p, ne_WorkQueue_in_work__working_p, ne_WorkQueue_in_work__ticks_p, ne_WorkQueue_in_work__failures_p, ne_WorkQueue_delayed__most_p, ne_WorkQueue_delayed__waiting_p, ne_WorkQueue_delayed__working_p, ne_WorkQueue_delayed__ticks_p, ne_WorkQueue_delayed__failures_p, ne_WorkQueue_failures__most_p, ne_WorkQueue_failures__waiting_p, ne_WorkQueue_failures__working_p, ne_WorkQueue_failures__ticks_p, ne_WorkQueue_failures__failures_p]
theorem fl_WorkQueue_no__delay {v0 v1 v2 v3 v4 : V} : (fl_WorkQueue v0 v1 v2 v3 v4).lookup ("_delay" : Str) = none := by unfold fl_WorkQueue; simp [List.lookup, ne_WorkQueue__most__waiting, ne_WorkQueue__most__working, ne_WorkQueue__most__ticks, ne_WorkQueue__most__failures, ne_WorkQueue__waiting__most, ne_WorkQueue__waiting__working, ne_WorkQueue__waiting__ticks, ne_WorkQueue__waiting__failures, ne_WorkQueue__working__most, ne_WorkQueue__working__waiting, ne_WorkQueue__working__ticks, ne_WorkQueue__working__failures, ne_WorkQueue__ticks__most, ne_WorkQueue__ticks__waiting, ne_WorkQueue__ticks__working, ne_WorkQueue__ticks__failures, ne_WorkQueue__failures__most, ne_WorkQueue__failures__waiting, ne_WorkQueue__failures__working, ne_WorkQueue__failures__ticks, ne_WorkQueue_add__most, ne_WorkQueue_add__waiting, ne_WorkQueue_add__working, ne_WorkQueue_add__ticks, ne_WorkQueue_add__failures, ne_WorkQueue_add_later__most, ne_WorkQueue_add_later__waiting, ne_WorkQueue_add_later__working, ne_WorkQueue_add_later__ticks, ne_WorkQueue_add_later__failures, ne_WorkQueue_tick__most, ne_WorkQueue_tick__waiting, ne_WorkQueue_tick__working, ne_WorkQueue_tick__ticks, ne_WorkQueue_tick__failures, ne_WorkQueue_take__most, ne_WorkQueue_take__waiting, ne_WorkQueue_take__working, ne_WorkQueue_take__ticks, ne_WorkQueue_take__failures, ne_WorkQueue_finish__most, ne_WorkQueue_finish__waiting, ne_WorkQueue_finish__working, ne_WorkQueue_finish__ticks, ne_WorkQueue_finish__failures, ne_WorkQueue_fail__most, ne_WorkQueue_fail__waiting, ne_WorkQueue_fail__working, ne_WorkQueue_fail__ticks, ne_WorkQueue_fail__failures, ne_WorkQueue__leave__most, ne_WorkQueue__leave__waiting, ne_WorkQueue__leave__working, ne_WorkQueue__leave__ticks, ne_WorkQueue__leave__failures, ne_WorkQueue__delay__most, ne_WorkQueue__delay__waiting, ne_WorkQueue__delay__working, ne_WorkQueue__delay__ticks, ne_WorkQueue__delay__failures, ne_WorkQueue_waiting__most, ne_WorkQueue_waiting__waiting, ne_WorkQueue_waiting__working, ne_WorkQueue_waiting__ticks, ne_WorkQueue_waiting__failures, ne_WorkQueue_in_work__most, ne_WorkQueue_in_work__waiting, ne_WorkQueue_in_work__working, ne_WorkQueue_in_work__ticks, ne_WorkQueue_in_work__failures, ne_WorkQueue_delayed__most, ne_WorkQueue_delayed__waiting, ne_WorkQueue_delayed__working, ne_WorkQueue_delayed__ticks, ne_WorkQueue_delayed__failures, ne_WorkQueue_failures__most, ne_WorkQueue_failures__waiting, ne_WorkQueue_failures__working, ne_WorkQueue_failures__ticks, ne_WorkQueue_failures__failures, ne_WorkQueue__most__waiting_p, ne_WorkQueue__most__working_p, ne_WorkQueue__most__ticks_p, ne_WorkQueue__most__failures_p, ne_WorkQueue__waiting__most_p, ne_WorkQueue__waiting__working_p, ne_WorkQueue__waiting__ticks_p, ne_WorkQueue__waiting__failures_p, ne_WorkQueue__working__most_p, ne_WorkQueue__working__waiting_p, ne_WorkQueue__working__ticks_p, ne_WorkQueue__working__failures_p, ne_WorkQueue__ticks__most_p, ne_WorkQueue__ticks__waiting_p, ne_WorkQueue__ticks__working_p, ne_WorkQueue__ticks__failures_p, ne_WorkQueue__failures__most_p, ne_WorkQueue__failures__waiting_p, ne_WorkQueue__failures__working_p, ne_WorkQueue__failures__ticks_p, ne_WorkQueue_add__most_p, ne_WorkQueue_add__waiting_p, ne_WorkQueue_add__working_p, ne_WorkQueue_add__ticks_p, ne_WorkQueue_add__failures_p, ne_WorkQueue_add_later__most_p, ne_WorkQueue_add_later__waiting_p, ne_WorkQueue_add_later__working_p, ne_WorkQueue_add_later__ticks_p, ne_WorkQueue_add_later__failures_p, ne_WorkQueue_tick__most_p, ne_WorkQueue_tick__waiting_p, ne_WorkQueue_tick__working_p, ne_WorkQueue_tick__ticks_p, ne_WorkQueue_tick__failures_p, ne_WorkQueue_take__most_p, ne_WorkQueue_take__waiting_p, ne_WorkQueue_take__working_p, ne_WorkQueue_take__ticks_p, ne_WorkQueue_take__failures_p, ne_WorkQueue_finish__most_p, ne_WorkQueue_finish__waiting_p, ne_WorkQueue_finish__working_p, ne_WorkQueue_finish__ticks_p, ne_WorkQueue_finish__failures_p, ne_WorkQueue_fail__most_p, ne_WorkQueue_fail__waiting_p, ne_WorkQueue_fail__working_p, ne_WorkQueue_fail__ticks_p, ne_WorkQueue_fail__failures_p, ne_WorkQueue__leave__most_p, ne_WorkQueue__leave__waiting_p, ne_WorkQueue__leave__working_p, ne_WorkQueue__leave__ticks_p, ne_WorkQueue__leave__failures_p, ne_WorkQueue__delay__most_p, ne_WorkQueue__delay__waiting_p, ne_WorkQueue__delay__working_p, ne_WorkQueue__delay__ticks_p, ne_WorkQueue__delay__failures_p, ne_WorkQueue_waiting__most_p, ne_WorkQueue_waiting__waiting_p, ne_WorkQueue_waiting__working_p, ne_WorkQueue_waiting__ticks_p, ne_WorkQueue_waiting__failures_p, ne_WorkQueue_in_work__most_p, ne_WorkQueue_in_work__waiting_p, ne_WorkQueue_in_work__working_p, ne_WorkQueue_in_work__ticks_p, ne_WorkQueue_in_work__failures_p, ne_WorkQueue_delayed__most_p, ne_WorkQueue_delayed__waiting_p, ne_WorkQueue_delayed__working_p, ne_WorkQueue_delayed__ticks_p, ne_WorkQueue_delayed__failures_p, ne_WorkQueue_failures__most_p, ne_WorkQueue_failures__waiting_p, ne_WorkQueue_failures__working_p, ne_WorkQueue_failures__ticks_p, ne_WorkQueue_failures__failures_p]
theorem fl_WorkQueue_no_waiting {v0 v1 v2 v3 v4 : V} : (fl_WorkQueue v0 v1 v2 v3 v4).lookup ("waiting" : Str) = none := by unfold fl_WorkQueue; simp [List.lookup, ne_WorkQueue__most__waiting, ne_WorkQueue__most__working, ne_WorkQueue__most__ticks, ne_WorkQueue__most__failures, ne_WorkQueue__waiting__most, ne_WorkQueue__waiting__working, ne_WorkQueue__waiting__ticks, ne_WorkQueue__waiting__failures, ne_WorkQueue__working__most, ne_WorkQueue__working__waiting, ne_WorkQueue__working__ticks, ne_WorkQueue__working__failures, ne_WorkQueue__ticks__most, ne_WorkQueue__ticks__waiting, ne_WorkQueue__ticks__working, ne_WorkQueue__ticks__failures, ne_WorkQueue__failures__most, ne_WorkQueue__failures__waiting, ne_WorkQueue__failures__working, ne_WorkQueue__failures__ticks, ne_WorkQueue_add__most, ne_WorkQueue_add__waiting, ne_WorkQueue_add__working, ne_WorkQueue_add__ticks, ne_WorkQueue_add__failures, ne_WorkQueue_add_later__most, ne_WorkQueue_add_later__waiting, ne_WorkQueue_add_later__working, ne_WorkQueue_add_later__ticks, ne_WorkQueue_add_later__failures, ne_WorkQueue_tick__most, ne_WorkQueue_tick__waiting, ne_WorkQueue_tick__working, ne_WorkQueue_tick__ticks, ne_WorkQueue_tick__failures, ne_WorkQueue_take__most, ne_WorkQueue_take__waiting, ne_WorkQueue_take__working, ne_WorkQueue_take__ticks, ne_WorkQueue_take__failures, ne_WorkQueue_finish__most, ne_WorkQueue_finish__waiting, ne_WorkQueue_finish__working, ne_WorkQueue_finish__ticks, ne_WorkQueue_finish__failures, ne_WorkQueue_fail__most, ne_WorkQueue_fail__waiting, ne_WorkQueue_fail__working, ne_WorkQueue_fail__ticks, ne_WorkQueue_fail__failures, ne_WorkQueue__leave__most, ne_WorkQueue__leave__waiting, ne_WorkQueue__leave__working, ne_WorkQueue__leave__ticks, ne_WorkQueue__leave__failures, ne_WorkQueue__delay__most, ne_WorkQueue__delay__waiting, ne_WorkQueue__delay__working, ne_WorkQueue__delay__ticks, ne_WorkQueue__delay__failures, ne_WorkQueue_waiting__most, ne_WorkQueue_waiting__waiting, ne_WorkQueue_waiting__working, ne_WorkQueue_waiting__ticks, ne_WorkQueue_waiting__failures, ne_WorkQueue_in_work__most, ne_WorkQueue_in_work__waiting, ne_WorkQueue_in_work__working, ne_WorkQueue_in_work__ticks, ne_WorkQueue_in_work__failures, ne_WorkQueue_delayed__most, ne_WorkQueue_delayed__waiting, ne_WorkQueue_delayed__working, ne_WorkQueue_delayed__ticks, ne_WorkQueue_delayed__failures, ne_WorkQueue_failures__most, ne_WorkQueue_failures__waiting, ne_WorkQueue_failures__working, ne_WorkQueue_failures__ticks, ne_WorkQueue_failures__failures, ne_WorkQueue__most__waiting_p, ne_WorkQueue__most__working_p, ne_WorkQueue__most__ticks_p, ne_WorkQueue__most__failures_p, ne_WorkQueue__waiting__most_p, ne_WorkQueue__waiting__working_p, ne_WorkQueue__waiting__ticks_p, ne_WorkQueue__waiting__failures_p, ne_WorkQueue__working__most_p, ne_WorkQueue__working__waiting_p, ne_WorkQueue__working__ticks_p, ne_WorkQueue__working__failures_p, ne_WorkQueue__ticks__most_p, ne_WorkQueue__ticks__waiting_p, ne_WorkQueue__ticks__working_p, ne_WorkQueue__ticks__failures_p, ne_WorkQueue__failures__most_p, ne_WorkQueue__failures__waiting_p, ne_WorkQueue__failures__working_p, ne_WorkQueue__failures__ticks_p, ne_WorkQueue_add__most_p, ne_WorkQueue_add__waiting_p, ne_WorkQueue_add__working_p, ne_WorkQueue_add__ticks_p, ne_WorkQueue_add__failures_p, ne_WorkQueue_add_later__most_p, ne_WorkQueue_add_later__waiting_p, ne_WorkQueue_add_later__working_p, ne_WorkQueue_add_later__ticks_p, ne_WorkQueue_add_later__failures_p, ne_WorkQueue_tick__most_p, ne_WorkQueue_tick__waiting_p, ne_WorkQueue_tick__working_p, ne_WorkQueue_tick__ticks_p, ne_WorkQueue_tick__failures_p, ne_WorkQueue_take__most_p, ne_WorkQueue_take__waiting_p, ne_WorkQueue_take__working_p, ne_WorkQueue_take__ticks_p, ne_WorkQueue_take__failures_p, ne_WorkQueue_finish__most_p, ne_WorkQueue_finish__waiting_p, ne_WorkQueue_finish__working_p, ne_WorkQueue_finish__ticks_p, ne_WorkQueue_finish__failures_p, ne_WorkQueue_fail__most_p, ne_WorkQueue_fail__waiting_p, ne_WorkQueue_fail__working_p, ne_WorkQueue_fail__ticks_p, ne_WorkQueue_fail__failures_p, ne_WorkQueue__leave__most_p, ne_WorkQueue__leave__waiting_p, ne_WorkQueue__leave__working_p, ne_WorkQueue__leave__ticks_p, ne_WorkQueue__leave__failures_p, ne_WorkQueue__delay__most_p, ne_WorkQueue__delay__waiting_p, ne_WorkQueue__delay__working_p, ne_WorkQueue__delay__ticks_p, ne_WorkQueue__delay__failures_p, ne_WorkQueue_waiting__most_p, ne_WorkQueue_waiting__waiting_p, ne_WorkQueue_waiting__working_p, ne_WorkQueue_waiting__ticks_p, ne_WorkQueue_waiting__failures_p, ne_WorkQueue_in_work__most_p, ne_WorkQueue_in_work__waiting_p, ne_WorkQueue_in_work__working_p, ne_WorkQueue_in_work__ticks_p, ne_WorkQueue_in_work__failures_p, ne_WorkQueue_delayed__most_p, ne_WorkQueue_delayed__waiting_p, ne_WorkQueue_delayed__working_p, ne_WorkQueue_delayed__ticks_p, ne_WorkQueue_delayed__failures_p, ne_WorkQueue_failures__most_p, ne_WorkQueue_failures__waiting_p, ne_WorkQueue_failures__working_p, ne_WorkQueue_failures__ticks_p, ne_WorkQueue_failures__failures_p]
theorem fl_WorkQueue_no_in_work {v0 v1 v2 v3 v4 : V} : (fl_WorkQueue v0 v1 v2 v3 v4).lookup ("in_work" : Str) = none := by unfold fl_WorkQueue; simp [List.lookup, ne_WorkQueue__most__waiting, ne_WorkQueue__most__working, ne_WorkQueue__most__ticks, ne_WorkQueue__most__failures, ne_WorkQueue__waiting__most, ne_WorkQueue__waiting__working, ne_WorkQueue__waiting__ticks, ne_WorkQueue__waiting__failures, ne_WorkQueue__working__most, ne_WorkQueue__working__waiting, ne_WorkQueue__working__ticks, ne_WorkQueue__working__failures, ne_WorkQueue__ticks__most, ne_WorkQueue__ticks__waiting, ne_WorkQueue__ticks__working, ne_WorkQueue__ticks__failures, ne_WorkQueue__failures__most, ne_WorkQueue__failures__waiting, ne_WorkQueue__failures__working, ne_WorkQueue__failures__ticks, ne_WorkQueue_add__most, ne_WorkQueue_add__waiting, ne_WorkQueue_add__working, ne_WorkQueue_add__ticks, ne_WorkQueue_add__failures, ne_WorkQueue_add_later__most, ne_WorkQueue_add_later__waiting, ne_WorkQueue_add_later__working, ne_WorkQueue_add_later__ticks, ne_WorkQueue_add_later__failures, ne_WorkQueue_tick__most, ne_WorkQueue_tick__waiting, ne_WorkQueue_tick__working, ne_WorkQueue_tick__ticks, ne_WorkQueue_tick__failures, ne_WorkQueue_take__most, ne_WorkQueue_take__waiting, ne_WorkQueue_take__working, ne_WorkQueue_take__ticks, ne_WorkQueue_take__failures, ne_WorkQueue_finish__most, ne_WorkQueue_finish__waiting, ne_WorkQueue_finish__working, ne_WorkQueue_finish__ticks, ne_WorkQueue_finish__failures, ne_WorkQueue_fail__most, ne_WorkQueue_fail__waiting, ne_WorkQueue_fail__working, ne_WorkQueue_fail__ticks, ne_WorkQueue_fail__failures, ne_WorkQueue__leave__most, ne_WorkQueue__leave__waiting, ne_WorkQueue__leave__working, ne_WorkQueue__leave__ticks, ne_WorkQueue__leave__failures, ne_WorkQueue__delay__most, ne_WorkQueue__delay__waiting, ne_WorkQueue__delay__working, ne_WorkQueue__delay__ticks, ne_WorkQueue__delay__failures, ne_WorkQueue_waiting__most, ne_WorkQueue_waiting__waiting, ne_WorkQueue_waiting__working, ne_WorkQueue_waiting__ticks, ne_WorkQueue_waiting__failures, ne_WorkQueue_in_work__most, ne_WorkQueue_in_work__waiting, ne_WorkQueue_in_work__working, ne_WorkQueue_in_work__ticks, ne_WorkQueue_in_work__failures, ne_WorkQueue_delayed__most, ne_WorkQueue_delayed__waiting, ne_WorkQueue_delayed__working, ne_WorkQueue_delayed__ticks, ne_WorkQueue_delayed__failures, ne_WorkQueue_failures__most, ne_WorkQueue_failures__waiting, ne_WorkQueue_failures__working, ne_WorkQueue_failures__ticks, ne_WorkQueue_failures__failures, ne_WorkQueue__most__waiting_p, ne_WorkQueue__most__working_p, ne_WorkQueue__most__ticks_p, ne_WorkQueue__most__failures_p, ne_WorkQueue__waiting__most_p, ne_WorkQueue__waiting__working_p, ne_WorkQueue__waiting__ticks_p, ne_WorkQueue__waiting__failures_p, ne_WorkQueue__working__most_p, ne_WorkQueue__working__waiting_p, ne_WorkQueue__working__ticks_p, ne_WorkQueue__working__failures_p, ne_WorkQueue__ticks__most_p, ne_WorkQueue__ticks__waiting_p, ne_WorkQueue__ticks__working_p, ne_WorkQueue__ticks__failures_p, ne_WorkQueue__failures__most_p, ne_WorkQueue__failures__waiting_p, ne_WorkQueue__failures__working_p, ne_WorkQueue__failures__ticks_p, ne_WorkQueue_add__most_p, ne_WorkQueue_add__waiting_p, ne_WorkQueue_add__working_p, ne_WorkQueue_add__ticks_p, ne_WorkQueue_add__failures_p, ne_WorkQueue_add_later__most_p, ne_WorkQueue_add_later__waiting_p, ne_WorkQueue_add_later__working_p, ne_WorkQueue_add_later__ticks_p, ne_WorkQueue_add_later__failures_p, ne_WorkQueue_tick__most_p, ne_WorkQueue_tick__waiting_p, ne_WorkQueue_tick__working_p, ne_WorkQueue_tick__ticks_p, ne_WorkQueue_tick__failures_p, ne_WorkQueue_take__most_p, ne_WorkQueue_take__waiting_p, ne_WorkQueue_take__working_p, ne_WorkQueue_take__ticks_p, ne_WorkQueue_take__failures_p, ne_WorkQueue_finish__most_p, ne_WorkQueue_finish__waiting_p, ne_WorkQueue_finish__working_p, ne_WorkQueue_finish__ticks_p, ne_WorkQueue_finish__failures_p, ne_WorkQueue_fail__most_p, ne_WorkQueue_fail__waiting_p, ne_WorkQueue_fail__working_p, ne_WorkQueue_fail__ticks_p, ne_WorkQueue_fail__failures_p, ne_WorkQueue__leave__most_p, ne_WorkQueue__leave__waiting_p, ne_WorkQueue__leave__working_p, ne_WorkQueue__leave__ticks_p, ne_WorkQueue__leave__failures_p, ne_WorkQueue__delay__most_p, ne_WorkQueue__delay__waiting_p, ne_WorkQueue__delay__working_p, ne_WorkQueue__delay__ticks_p, ne_WorkQueue__delay__failures_p, ne_WorkQueue_waiting__most_p, ne_WorkQueue_waiting__waiting_p, ne_WorkQueue_waiting__working_p, ne_WorkQueue_waiting__ticks_p, ne_WorkQueue_waiting__failures_p, ne_WorkQueue_in_work__most_p, ne_WorkQueue_in_work__waiting_p, ne_WorkQueue_in_work__working_p, ne_WorkQueue_in_work__ticks_p, ne_WorkQueue_in_work__failures_p, ne_WorkQueue_delayed__most_p, ne_WorkQueue_delayed__waiting_p, ne_WorkQueue_delayed__working_p, ne_WorkQueue_delayed__ticks_p, ne_WorkQueue_delayed__failures_p, ne_WorkQueue_failures__most_p, ne_WorkQueue_failures__waiting_p, ne_WorkQueue_failures__working_p, ne_WorkQueue_failures__ticks_p, ne_WorkQueue_failures__failures_p]
theorem fl_WorkQueue_no_delayed {v0 v1 v2 v3 v4 : V} : (fl_WorkQueue v0 v1 v2 v3 v4).lookup ("delayed" : Str) = none := by unfold fl_WorkQueue; simp [List.lookup, ne_WorkQueue__most__waiting, ne_WorkQueue__most__working, ne_WorkQueue__most__ticks, ne_WorkQueue__most__failures, ne_WorkQueue__waiting__most, ne_WorkQueue__waiting__working, ne_WorkQueue__waiting__ticks, ne_WorkQueue__waiting__failures, ne_WorkQueue__working__most, ne_WorkQueue__working__waiting, ne_WorkQueue__working__ticks, ne_WorkQueue__working__failures, ne_WorkQueue__ticks__most, ne_WorkQueue__ticks__waiting, ne_WorkQueue__ticks__working, ne_WorkQueue__ticks__failures, ne_WorkQueue__failures__most, ne_WorkQueue__failures__waiting, ne_WorkQueue__failures__working, ne_WorkQueue__failures__ticks, ne_WorkQueue_add__most, ne_WorkQueue_add__waiting, ne_WorkQueue_add__working, ne_WorkQueue_add__ticks, ne_WorkQueue_add__failures, ne_WorkQueue_add_later__most, ne_WorkQueue_add_later__waiting, ne_WorkQueue_add_later__working, ne_WorkQueue_add_later__ticks, ne_WorkQueue_add_later__failures, ne_WorkQueue_tick__most, ne_WorkQueue_tick__waiting, ne_WorkQueue_tick__working, ne_WorkQueue_tick__ticks, ne_WorkQueue_tick__failures, ne_WorkQueue_take__most, ne_WorkQueue_take__waiting, ne_WorkQueue_take__working, ne_WorkQueue_take__ticks, ne_WorkQueue_take__failures, ne_WorkQueue_finish__most, ne_WorkQueue_finish__waiting, ne_WorkQueue_finish__working, ne_WorkQueue_finish__ticks, ne_WorkQueue_finish__failures, ne_WorkQueue_fail__most, ne_WorkQueue_fail__waiting, ne_WorkQueue_fail__working, ne_WorkQueue_fail__ticks, ne_WorkQueue_fail__failures, ne_WorkQueue__leave__most, ne_WorkQueue__leave__waiting, ne_WorkQueue__leave__working, ne_WorkQueue__leave__ticks, ne_WorkQueue__leave__failures, ne_WorkQueue__delay__most, ne_WorkQueue__delay__waiting, ne_WorkQueue__delay__working, ne_WorkQueue__delay__ticks, ne_WorkQueue__delay__failures, ne_WorkQueue_waiting__most, ne_WorkQueue_waiting__waiting, ne_WorkQueue_waiting__working, ne_WorkQueue_waiting__ticks, ne_WorkQueue_waiting__failures, ne_WorkQueue_in_work__most, ne_WorkQueue_in_work__waiting, ne_WorkQueue_in_work__working, ne_WorkQueue_in_work__ticks, ne_WorkQueue_in_work__failures, ne_WorkQueue_delayed__most, ne_WorkQueue_delayed__waiting, ne_WorkQueue_delayed__working, ne_WorkQueue_delayed__ticks, ne_WorkQueue_delayed__failures, ne_WorkQueue_failures__most, ne_WorkQueue_failures__waiting, ne_WorkQueue_failures__working, ne_WorkQueue_failures__ticks, ne_WorkQueue_failures__failures, ne_WorkQueue__most__waiting_p, ne_WorkQueue__most__working_p, ne_WorkQueue__most__ticks_p, ne_WorkQueue__most__failures_p, ne_WorkQueue__waiting__most_p, ne_WorkQueue__waiting__working_p, ne_WorkQueue__waiting__ticks_p, ne_WorkQueue__waiting__failures_p, ne_WorkQueue__working__most_p, ne_WorkQueue__working__waiting_p, ne_WorkQueue__working__ticks_p, ne_WorkQueue__working__failures_p, ne_WorkQueue__ticks__most_p, ne_WorkQueue__ticks__waiting_p, ne_WorkQueue__ticks__working_p, ne_WorkQueue__ticks__failures_p, ne_WorkQueue__failures__most_p, ne_WorkQueue__failures__waiting_p, ne_WorkQueue__failures__working_p, ne_WorkQueue__failures__ticks_p, ne_WorkQueue_add__most_p, ne_WorkQueue_add__waiting_p, ne_WorkQueue_add__working_p, ne_WorkQueue_add__ticks_p, ne_WorkQueue_add__failures_p, ne_WorkQueue_add_later__most_p, ne_WorkQueue_add_later__waiting_p, ne_WorkQueue_add_later__working_p, ne_WorkQueue_add_later__ticks_p, ne_WorkQueue_add_later__failures_p, ne_WorkQueue_tick__most_p, ne_WorkQueue_tick__waiting_p, ne_WorkQueue_tick__working_p, ne_WorkQueue_tick__ticks_p, ne_WorkQueue_tick__failures_p, ne_WorkQueue_take__most_p, ne_WorkQueue_take__waiting_p, ne_WorkQueue_take__working_p, ne_WorkQueue_take__ticks_p, ne_WorkQueue_take__failures_p, ne_WorkQueue_finish__most_p, ne_WorkQueue_finish__waiting_p, ne_WorkQueue_finish__working_p, ne_WorkQueue_finish__ticks_p, ne_WorkQueue_finish__failures_p, ne_WorkQueue_fail__most_p, ne_WorkQueue_fail__waiting_p, ne_WorkQueue_fail__working_p, ne_WorkQueue_fail__ticks_p, ne_WorkQueue_fail__failures_p, ne_WorkQueue__leave__most_p, ne_WorkQueue__leave__waiting_p, ne_WorkQueue__leave__working_p, ne_WorkQueue__leave__ticks_p, ne_WorkQueue__leave__failures_p, ne_WorkQueue__delay__most_p, ne_WorkQueue__delay__waiting_p, ne_WorkQueue__delay__working_p, ne_WorkQueue__delay__ticks_p, ne_WorkQueue__delay__failures_p, ne_WorkQueue_waiting__most_p, ne_WorkQueue_waiting__waiting_p, ne_WorkQueue_waiting__working_p, ne_WorkQueue_waiting__ticks_p, ne_WorkQueue_waiting__failures_p, ne_WorkQueue_in_work__most_p, ne_WorkQueue_in_work__waiting_p, ne_WorkQueue_in_work__working_p, ne_WorkQueue_in_work__ticks_p, ne_WorkQueue_in_work__failures_p, ne_WorkQueue_delayed__most_p, ne_WorkQueue_delayed__waiting_p, ne_WorkQueue_delayed__working_p, ne_WorkQueue_delayed__ticks_p, ne_WorkQueue_delayed__failures_p, ne_WorkQueue_failures__most_p, ne_WorkQueue_failures__waiting_p, ne_WorkQueue_failures__working_p, ne_WorkQueue_failures__ticks_p, ne_WorkQueue_failures__failures_p]
theorem fl_WorkQueue_no_failures {v0 v1 v2 v3 v4 : V} : (fl_WorkQueue v0 v1 v2 v3 v4).lookup ("failures" : Str) = none := by unfold fl_WorkQueue; simp [List.lookup, ne_WorkQueue__most__waiting, ne_WorkQueue__most__working, ne_WorkQueue__most__ticks, ne_WorkQueue__most__failures, ne_WorkQueue__waiting__most, ne_WorkQueue__waiting__working, ne_WorkQueue__waiting__ticks, ne_WorkQueue__waiting__failures, ne_WorkQueue__working__most, ne_WorkQueue__working__waiting, ne_WorkQueue__working__ticks, ne_WorkQueue__working__failures, ne_WorkQueue__ticks__most, ne_WorkQueue__ticks__waiting, ne_WorkQueue__ticks__working, ne_WorkQueue__ticks__failures, ne_WorkQueue__failures__most, ne_WorkQueue__failures__waiting, ne_WorkQueue__failures__working, ne_WorkQueue__failures__ticks, ne_WorkQueue_add__most, ne_WorkQueue_add__waiting, ne_WorkQueue_add__working, ne_WorkQueue_add__ticks, ne_WorkQueue_add__failures, ne_WorkQueue_add_later__most, ne_WorkQueue_add_later__waiting, ne_WorkQueue_add_later__working, ne_WorkQueue_add_later__ticks, ne_WorkQueue_add_later__failures, ne_WorkQueue_tick__most, ne_WorkQueue_tick__waiting, ne_WorkQueue_tick__working, ne_WorkQueue_tick__ticks, ne_WorkQueue_tick__failures, ne_WorkQueue_take__most, ne_WorkQueue_take__waiting, ne_WorkQueue_take__working, ne_WorkQueue_take__ticks, ne_WorkQueue_take__failures, ne_WorkQueue_finish__most, ne_WorkQueue_finish__waiting, ne_WorkQueue_finish__working, ne_WorkQueue_finish__ticks, ne_WorkQueue_finish__failures, ne_WorkQueue_fail__most, ne_WorkQueue_fail__waiting, ne_WorkQueue_fail__working, ne_WorkQueue_fail__ticks, ne_WorkQueue_fail__failures, ne_WorkQueue__leave__most, ne_WorkQueue__leave__waiting, ne_WorkQueue__leave__working, ne_WorkQueue__leave__ticks, ne_WorkQueue__leave__failures, ne_WorkQueue__delay__most, ne_WorkQueue__delay__waiting, ne_WorkQueue__delay__working, ne_WorkQueue__delay__ticks, ne_WorkQueue__delay__failures, ne_WorkQueue_waiting__most, ne_WorkQueue_waiting__waiting, ne_WorkQueue_waiting__working, ne_WorkQueue_waiting__ticks, ne_WorkQueue_waiting__failures, ne_WorkQueue_in_work__most, ne_WorkQueue_in_work__waiting, ne_WorkQueue_in_work__working, ne_WorkQueue_in_work__ticks, ne_WorkQueue_in_work__failures, ne_WorkQueue_delayed__most, ne_WorkQueue_delayed__waiting, ne_WorkQueue_delayed__working, ne_WorkQueue_delayed__ticks, ne_WorkQueue_delayed__failures, ne_WorkQueue_failures__most, ne_WorkQueue_failures__waiting, ne_WorkQueue_failures__working, ne_WorkQueue_failures__ticks, ne_WorkQueue_failures__failures, ne_WorkQueue__most__waiting_p, ne_WorkQueue__most__working_p, ne_WorkQueue__most__ticks_p, ne_WorkQueue__most__failures_p, ne_WorkQueue__waiting__most_p, ne_WorkQueue__waiting__working_p, ne_WorkQueue__waiting__ticks_p, ne_WorkQueue__waiting__failures_p, ne_WorkQueue__working__most_p, ne_WorkQueue__working__waiting_p, ne_WorkQueue__working__ticks_p, ne_WorkQueue__working__failures_p, ne_WorkQueue__ticks__most_p, ne_WorkQueue__ticks__waiting_p, ne_WorkQueue__ticks__working_p, ne_WorkQueue__ticks__failures_p, ne_WorkQueue__failures__most_p, ne_WorkQueue__failures__waiting_p, ne_WorkQueue__failures__working_p, ne_WorkQueue__failures__ticks_p, ne_WorkQueue_add__most_p, ne_WorkQueue_add__waiting_p, ne_WorkQueue_add__working_p, ne_WorkQueue_add__ticks_p, ne_WorkQueue_add__failures_p, ne_WorkQueue_add_later__most_p, ne_WorkQueue_add_later__waiting_p, ne_WorkQueue_add_later__working_p, ne_WorkQueue_add_later__ticks_p, ne_WorkQueue_add_later__failures_p, ne_WorkQueue_tick__most_p, ne_WorkQueue_tick__waiting_p, ne_WorkQueue_tick__working_p, ne_WorkQueue_tick__ticks_p, ne_WorkQueue_tick__failures_p, ne_WorkQueue_take__most_p, ne_WorkQueue_take__waiting_p, ne_WorkQueue_take__working_p, ne_WorkQueue_take__ticks_p, ne_WorkQueue_take__failures_p, ne_WorkQueue_finish__most_p, ne_WorkQueue_finish__waiting_p, ne_WorkQueue_finish__working_p, ne_WorkQueue_finish__ticks_p, ne_WorkQueue_finish__failures_p, ne_WorkQueue_fail__most_p, ne_WorkQueue_fail__waiting_p, ne_WorkQueue_fail__working_p, ne_WorkQueue_fail__ticks_p, ne_WorkQueue_fail__failures_p, ne_WorkQueue__leave__most_p, ne_WorkQueue__leave__waiting_p, ne_WorkQueue__leave__working_p, ne_WorkQueue__leave__ticks_p, ne_WorkQueue__leave__failures_p, ne_WorkQueue__delay__most_p, ne_WorkQueue__delay__waiting_p, ne_WorkQueue__delay__working_p, ne_WorkQueue__delay__ticks_p, ne_WorkQueue__delay__failures_p, ne_WorkQueue_waiting__most_p, ne_WorkQueue_waiting__waiting_p, ne_WorkQueue_waiting__working_p, ne_WorkQueue_waiting__ticks_p, ne_WorkQueue_waiting__failures_p, ne_WorkQueue_in_work__most_p, ne_WorkQueue_in_work__waiting_p, ne_WorkQueue_in_work__working_p, ne_WorkQueue_in_work__ticks_p, ne_WorkQueue_in_work__failures_p, ne_WorkQueue_delayed__most_p, ne_WorkQueue_delayed__waiting_p, ne_WorkQueue_delayed__working_p, ne_WorkQueue_delayed__ticks_p, ne_WorkQueue_delayed__failures_p, ne_WorkQueue_failures__most_p, ne_WorkQueue_failures__waiting_p, ne_WorkQueue_failures__working_p, ne_WorkQueue_failures__ticks_p, ne_WorkQueue_failures__failures_p]
theorem fl_WorkQueue_new {v0 v1 v2 v3 v4 : V} : putF ("_failures" : Str) v4 (putF ("_ticks" : Str) v3 (putF ("_working" : Str) v2 (putF ("_waiting" : Str) v1 (putF ("_most" : Str) v0 ([]))))) = fl_WorkQueue v0 v1 v2 v3 v4 := by unfold fl_WorkQueue; simp [putF, ne_WorkQueue__most__waiting, ne_WorkQueue__most__working, ne_WorkQueue__most__ticks, ne_WorkQueue__most__failures, ne_WorkQueue__waiting__most, ne_WorkQueue__waiting__working, ne_WorkQueue__waiting__ticks, ne_WorkQueue__waiting__failures, ne_WorkQueue__working__most, ne_WorkQueue__working__waiting, ne_WorkQueue__working__ticks, ne_WorkQueue__working__failures, ne_WorkQueue__ticks__most, ne_WorkQueue__ticks__waiting, ne_WorkQueue__ticks__working, ne_WorkQueue__ticks__failures, ne_WorkQueue__failures__most, ne_WorkQueue__failures__waiting, ne_WorkQueue__failures__working, ne_WorkQueue__failures__ticks, ne_WorkQueue_add__most, ne_WorkQueue_add__waiting, ne_WorkQueue_add__working, ne_WorkQueue_add__ticks, ne_WorkQueue_add__failures, ne_WorkQueue_add_later__most, ne_WorkQueue_add_later__waiting, ne_WorkQueue_add_later__working, ne_WorkQueue_add_later__ticks, ne_WorkQueue_add_later__failures, ne_WorkQueue_tick__most, ne_WorkQueue_tick__waiting, ne_WorkQueue_tick__working, ne_WorkQueue_tick__ticks, ne_WorkQueue_tick__failures, ne_WorkQueue_take__most, ne_WorkQueue_take__waiting, ne_WorkQueue_take__working, ne_WorkQueue_take__ticks, ne_WorkQueue_take__failures, ne_WorkQueue_finish__most, ne_WorkQueue_finish__waiting, ne_WorkQueue_finish__working, ne_WorkQueue_finish__ticks, ne_WorkQueue_finish__failures, ne_WorkQueue_fail__most, ne_WorkQueue_fail__waiting, ne_WorkQueue_fail__working, ne_WorkQueue_fail__ticks, ne_WorkQueue_fail__failures, ne_WorkQueue__leave__most, ne_WorkQueue__leave__waiting, ne_WorkQueue__leave__working, ne_WorkQueue__leave__ticks, ne_WorkQueue__leave__failures, ne_WorkQueue__delay__most, ne_WorkQueue__delay__waiting, ne_WorkQueue__delay__working, ne_WorkQueue__delay__ticks, ne_WorkQueue__delay__failures, ne_WorkQueue_waiting__most, ne_WorkQueue_waiting__waiting, ne_WorkQueue_waiting__working, ne_WorkQueue_waiting__ticks, ne_WorkQueue_waiting__failures, ne_WorkQueue_in_work__most, ne_WorkQueue_in_work__waiting, ne_WorkQueue_in_work__working, ne_WorkQueue_in_work__ticks, ne_WorkQueue_in_work__failures, ne_WorkQueue_delayed__most, ne_WorkQueue_delayed__waiting, ne_WorkQueue_delayed__working, ne_WorkQueue_delayed__ticks, ne_WorkQueue_delayed__failures, ne_WorkQueue_failures__most, ne_WorkQueue_failures__waiting, ne_WorkQueue_failures__working, ne_WorkQueue_failures__ticks, ne_WorkQueue_failures__failures, ne_WorkQueue__most__waiting_p, ne_WorkQueue__most__working_p, ne_WorkQueue__most__ticks_p, ne_WorkQueue__most__failures_p, ne_WorkQueue__waiting__most_p, ne_WorkQueue__waiting__working_p, ne_WorkQueue__waiting__ticks_p, ne_WorkQueue__waiting__failures_p, ne_WorkQueue__working__most_p, ne_WorkQueue__working__waiting_p, ne_WorkQueue__working__ticks_p, ne_WorkQueue__working__failures_p, ne_WorkQueue__ticks__most_p, ne_WorkQueue__ticks__waiting_p, ne_WorkQueue__ticks__working_p, ne_WorkQueue__ticks__failures_p, ne_WorkQueue__failures__most_p, ne_WorkQueue__failures__waiting_p, ne_WorkQueue__failures__working_p, ne_WorkQueue__failures__ticks_p, ne_WorkQueue_add__most_p, ne_WorkQueue_add__waiting_p, ne_WorkQueue_add__working_p, ne_WorkQueue_add__ticks_p, ne_WorkQueue_add__failures_p, ne_WorkQueue_add_later__most_p, ne_WorkQueue_add_later__waiting_p, ne_WorkQueue_add_later__working_p, ne_WorkQueue_add_later__ticks_p, ne_WorkQueue_add_later__failures_p, ne_WorkQueue_tick__most_p, ne_WorkQueue_tick__waiting_p, ne_WorkQueue_tick__working_p, ne_WorkQueue_tick__ticks_p, ne_WorkQueue_tick__failures_p, ne_WorkQueue_take__most_p, ne_WorkQueue_take__waiting_p, ne_WorkQueue_take__working_p, ne_WorkQueue_take__ticks_p, ne_WorkQueue_take__failures_p, ne_WorkQueue_finish__most_p, ne_WorkQueue_finish__waiting_p, ne_WorkQueue_finish__working_p, ne_WorkQueue_finish__ticks_p, ne_WorkQueue_finish__failures_p, ne_WorkQueue_fail__most_p, ne_WorkQueue_fail__waiting_p, ne_WorkQueue_fail__working_p, ne_WorkQueue_fail__ticks_p, ne_WorkQueue_fail__failures_p, ne_WorkQueue__leave__most_p, ne_WorkQueue__leave__waiting_p, ne_WorkQueue__leave__working_p, ne_WorkQueue__leave__ticks_p, ne_WorkQueue__leave__failures_p, ne_WorkQueue__delay__most_p, ne_WorkQueue__delay__waiting_p, ne_WorkQueue__delay__working_p, ne_WorkQueue__delay__ticks_p, ne_WorkQueue__delay__failures_p, ne_WorkQueue_waiting__most_p, ne_WorkQueue_waiting__waiting_p, ne_WorkQueue_waiting__working_p, ne_WorkQueue_waiting__ticks_p, ne_WorkQueue_waiting__failures_p, ne_WorkQueue_in_work__most_p, ne_WorkQueue_in_work__waiting_p, ne_WorkQueue_in_work__working_p, ne_WorkQueue_in_work__ticks_p, ne_WorkQueue_in_work__failures_p, ne_WorkQueue_delayed__most_p, ne_WorkQueue_delayed__waiting_p, ne_WorkQueue_delayed__working_p, ne_WorkQueue_delayed__ticks_p, ne_WorkQueue_delayed__failures_p, ne_WorkQueue_failures__most_p, ne_WorkQueue_failures__waiting_p, ne_WorkQueue_failures__working_p, ne_WorkQueue_failures__ticks_p, ne_WorkQueue_failures__failures_p]

/-! dicts whose keys are texts: what they hold, as a function -/
def isTxt (z : Str) : Value → Bool
  | .str y _ => y == z
  | _ => false
theorem vals_get : ∀ {xs : List V} {us : List Value} {i : Nat} {x : V}, Vals xs us → xs[i]? = some x → ∃ u, us[i]? = some u ∧ RelV x u
  | _, _, _, _, .nil, h => by simp at h
  | _, _, 0, _, .cons r _, h => ⟨_, rfl, by cases h; exact r⟩
  | _, _, i + 1, _, .cons _ t, h => by
    obtain ⟨u, e, r⟩ := vals_get (i := i) t (by simpa using h)
    exact ⟨u, by simpa using e, r⟩
theorem vals_drop : ∀ {xs : List V} {us : List Value} (i : Nat), Vals xs us → Vals (xs.eraseIdx i) (us.eraseIdx i)
  | _, _, _, .nil => .nil
  | _, _, 0, .cons _ t => t
  | _, _, i + 1, .cons r t => .cons r (vals_drop i t)
theorem txt_gives {z : Str} {t : Tok} : ∀ {zs : List Str} {us : List Value}, Vals (zs.map V.str) us → ∀ u ∈ us, MeetsSeq.EqGives u (.str z t) (isTxt z u)
  | [], _, .nil, _, h => by cases h
  | y :: zs, _, .cons r tl, u, h => by
    rcases List.mem_cons.mp h with e | e
    · obtain ⟨k, rfl⟩ := r
      subst e
      exact eqGives_str y z k t
    · exact txt_gives tl u e
theorem erase_str : ∀ (l : List Str) (j : Nat), (l.map V.str).eraseIdx j = (l.eraseIdx j).map V.str
  | [], _ => rfl
  | _ :: _, 0 => rfl
  | y :: l, j + 1 => congrArg (V.str y :: ·) (erase_str l j)
def rRemS : V → List V → Hp → VK → Prop := fun x as H Q => ∃ (l : Addr) (zs : List Str) (z : Str), x = .ref l ∧ as = [.str z] ∧ H l = some (.lst (zs.map V.str)) ∧ z ∈ zs ∧ Q .non (upd H l (.lst ((zs.erase z).map V.str)))
theorem mt_removeS {X : Cx} : MtR X "list.remove" rRemS := by
  intro pins s σ H x as v us Q I rx ra ⟨l, zs, z, e1, e2, hH, hz, q⟩
  subst e1; subst e2
  cases rx
  obtain ⟨u, rfl, t, rfl⟩ := ra.one
  obtain ⟨hn, its, n, r, hl, e⟩ := I.lstM hH
  rw [List.length_map] at hl hn
  have hj : zs.idxOf z < zs.length := List.idxOf_lt_length_iff.mpr hz
  have hg : zs[zs.idxOf z]? = some z := by rw [List.getElem?_eq_getElem hj, List.getElem_idxOf]
  have at_ : ∀ (m : Nat) (y : Str) (hm : m < its.toArray.size), zs[m]? = some y → isTxt z its.toArray[m] = (y == z) := fun m y hm hy => by
    obtain ⟨u, hu, k, rfl⟩ := vals_get r (show (zs.map V.str)[m]? = some (.str y) by rw [List.getElem?_map, hy]; rfl)
    obtain ⟨h1, h2⟩ := List.getElem?_eq_some_iff.mp hu
    have h3 : its.toArray[m] = .str y k := by simpa using h2
    rw [h3]
    rfl
  have hjl : zs.idxOf z < its.toArray.size := by rw [List.size_toArray]; omega
  have run := MeetsSeq.list_remove l its.toArray n (.str z t) (isTxt z) (fun y hy => txt_gives r y (by simpa using hy)) (zs.idxOf z) hjl (by rw [at_ _ _ hjl hg]; exact beq_self_eq_true z) (fun m hm hmj => by
    have hmz : m < zs.length := by omega
    rw [at_ m _ hm (List.getElem?_eq_getElem hmz)]
    exact beq_eq_false_iff_ne.mpr fun h2 => by
      have h3 := List.not_of_lt_findIdx (xs := zs) (p := fun y => y == z) (i := m) hmj
      simp [h2] at h3) (by rw [List.size_toArray]; omega)
  refine call_meets PySem.F.slot_list_remove ⟨_, e, rfl⟩ PySem.F.entry_list_remove (PySem.F.args_list_remove_2 _ _) run ⟨e, ?_⟩
  have hE : (zs.map V.str).eraseIdx (zs.idxOf z) = (zs.erase z).map V.str := by
    rw [List.erase_eq_eraseIdx_of_idxOf (i := zs.idxOf z) rfl]
    exact erase_str zs _
  have rr := vals_drop (zs.idxOf z) r
  rw [hE] at rr
  refine ⟨.non, _, I.lset (its' := its.eraseIdx (zs.idxOf z)) (t' := s.toks) hH e ?_ rr ?_, rfl, q⟩
  · exact (List.eraseIdxIfInBounds_toArray ..).trans rfl
  · rw [List.length_map]
    exact Nat.le_trans (List.length_erase_le ..) hn
/-- x *= y, x from -2^64 to 2^64 -/
theorem ip_mul {X : Cx} : PIp X .Mult (fun x y H Q => ∃ i j : Int, x = .int i ∧ y = .int j ∧ (-(2 ^ 64) < i ∧ i < 2 ^ 64) ∧ Q (.int (i * j)) H) := by
  intro pins s σ H x y v u Q I r1 r2 ⟨i, j, e1, e2, ⟨h1, h2⟩, q⟩
  subst e1; subst e2
  obtain ⟨t, rfl⟩ := r1
  obtain ⟨t', rfl⟩ := r2
  exact imul_int ⟨.int _, H, I.tok _, ⟨_, rfl⟩, q⟩ (.of_left (intBits_le_64 h1 h2))
theorem nd_len {α : Type} [DecidableEq α] : ∀ {l U : List α}, l.Nodup → (∀ x ∈ l, x ∈ U) → l.length ≤ U.length
  | [], _, _, _ => Nat.zero_le _
  | a :: l, U, nd, h => by
    have ha := h a List.mem_cons_self
    have n2 := List.nodup_cons.mp nd
    have := nd_len (l := l) (U := U.erase a) n2.2 fun x hx => (List.mem_erase_of_ne (fun z => n2.1 (by rw [← z]; exact hx))).mpr (h x (List.mem_cons_of_mem _ hx))
    rw [List.length_erase_of_mem ha] at this
    have h0 : 0 < U.length := List.length_pos_of_mem ha
    simp only [List.length_cons]
    omega
structure DS {α : Type} (U : List Str) (g : α → V) (kvs : List (Key × V)) (f : Str → Option α) : Prop where
  nd : (kvs.map (·.1)).Nodup
  ks : ∀ kv ∈ kvs, ∃ s ∈ U, kv.1 = Sum.inr s
  vl : ∀ s, valV kvs (Sum.inr s) = (f s).map g
def keyS : Key → Str
  | .inr s => s
  | _ => ""
section
variable {α : Type} {U : List Str} {g : α → V} {kvs : List (Key × V)} {f : Str → Option α}
def setF (f : Str → Option α) (k : Str) (v : α) : Str → Option α := fun s => if s = k then some v else f s
def unsF (f : Str → Option α) (k : Str) : Str → Option α := fun s => if s = k then none else f s
theorem ds_nil : DS U g [] fun _ => none := ⟨List.nodup_nil, (fun _ h => by cases h), fun _ => rfl⟩
theorem keys_map (h : DS U g kvs f) : kvs.map (·.1) = (kvs.map fun kv => keyS kv.1).map Sum.inr := by
  rw [List.map_map]
  apply List.map_congr_left
  intro kv hm
  obtain ⟨s, _, e⟩ := h.ks kv hm
  show kv.1 = Sum.inr (keyS kv.1)
  rw [e]
  rfl
theorem keys_nd (h : DS U g kvs f) : (kvs.map fun kv => keyS kv.1).Nodup := by
  have := h.nd
  rw [keys_map h] at this
  exact List.Pairwise.of_map Sum.inr (fun a b hab z => hab (by rw [z])) this
theorem keys_in (h : DS U g kvs f) : ∀ s ∈ (kvs.map fun kv => keyS kv.1), s ∈ U := fun s hs => by
  obtain ⟨kv, hm, rfl⟩ := List.mem_map.mp hs
  obtain ⟨s, hu, e⟩ := h.ks kv hm
  rw [e]
  exact hu
theorem ds_len (h : DS U g kvs f) : kvs.length ≤ U.length := by
  have := nd_len (keys_nd h) (keys_in h)
  rwa [List.length_map] at this
theorem key_iff (h : DS U g kvs f) (s : Str) : s ∈ (kvs.map fun kv => keyS kv.1) ↔ (f s).isSome = true := by
  have e : (valV kvs (Sum.inr s)).isSome = (f s).isSome := by rw [h.vl]; cases f s <;> rfl
  rw [← e, ← valV_any]
  constructor
  · intro hs
    obtain ⟨kv, hm, rfl⟩ := List.mem_map.mp hs
    obtain ⟨s, _, e⟩ := h.ks kv hm
    exact List.any_eq_true.mpr ⟨kv, hm, by rw [e]; simp [keyS]⟩
  · intro hs
    obtain ⟨kv, hm, e⟩ := List.any_eq_true.mp hs
    exact List.mem_map.mpr ⟨kv, hm, by rw [of_decide_eq_true e]; rfl⟩
theorem ds_put (h : DS U g kvs f) {k : Str} (hk : k ∈ U) (v : α) : DS U g (putK kvs (Sum.inr k) (g v)) (setF f k v) := by
  refine ⟨?_, ?_, fun s => ?_⟩
  · unfold putK
    split
    · rw [List.map_map]
      have : ((fun x => x.1) ∘ fun kv : Key × V => if kv.1 = Sum.inr k then (kv.1, g v) else kv) = fun x => x.1 := by
        funext kv
        simp only [Function.comp]
        split <;> rfl
      rw [this]
      exact h.nd
    · next hn =>
      rw [List.map_append]
      refine List.nodup_append.mpr ⟨h.nd, by simp, fun x hx y hy z => hn ?_⟩
      simp only [List.map_cons, List.map_nil, List.mem_cons, List.not_mem_nil, or_false] at hy
      obtain ⟨kv, hm, e⟩ := List.mem_map.mp hx
      exact List.any_eq_true.mpr ⟨kv, hm, decide_eq_true (by rw [e, z, hy])⟩
  · intro kv hm
    unfold putK at hm
    split at hm
    · obtain ⟨kv', hm', e⟩ := List.mem_map.mp hm
      obtain ⟨s, hu, e'⟩ := h.ks kv' hm'
      refine ⟨s, hu, ?_⟩
      rw [← e]
      split <;> exact e'
    · rcases List.mem_append.mp hm with hm | hm
      · exact h.ks kv hm
      · rw [List.mem_singleton] at hm
        exact ⟨k, hk, by rw [hm]⟩
  · rw [valV_put]
    unfold setF
    by_cases e : s = k
    · rw [e, if_pos rfl, if_pos rfl]
      rfl
    · rw [if_neg (fun z => e (Sum.inr.inj z)), if_neg e]
      exact h.vl s
theorem val_drop (k j : Key) : ∀ kvs : List (Key × V), valV (dropK kvs k) j = if j = k then none else valV kvs j
  | [] => by simp [dropK, valV_nil]
  | p :: r => by
    have ih := val_drop k j r
    unfold dropK at ih ⊢
    rw [List.filter_cons]
    by_cases hp : p.1 = k
    · rw [if_neg (by simp [hp]), ih]
      split
      · rfl
      · next hj => rw [valV_neg (fun z => hj (by rw [← z, hp]))]
    · rw [if_pos (by simp [hp])]
      by_cases hj : p.1 = j
      · rw [valV_pos hj, valV_pos hj, if_neg (fun z => hp (by rw [hj, z]))]
      · rw [valV_neg hj, valV_neg hj, ih]
theorem ds_drop (h : DS U g kvs f) (k : Str) : DS U g (dropK kvs (Sum.inr k)) (unsF f k) := by
  refine ⟨(List.filter_sublist.map _).nodup h.nd, fun kv hm => h.ks kv (List.mem_filter.mp hm).1, fun s => ?_⟩
  rw [val_drop]
  unfold unsF
  by_cases e : s = k
  · rw [e, if_pos rfl, if_pos rfl]
    rfl
  · rw [if_neg (fun z => e (Sum.inr.inj z)), if_neg e]
    exact h.vl s
end
theorem inV_str (k : Str) : ∀ zs : List Str, inV (.str k) (zs.map V.str) = decide (k ∈ zs)
  | [] => rfl
  | z :: zs => by
    have ih := inV_str k zs
    unfold inV at ih ⊢
    rw [List.map_cons, List.any_cons, ih]
    show ((z == k) || decide (k ∈ zs)) = decide (k ∈ z :: zs)
    by_cases e : k = z
    · subst e
      rw [beq_self_eq_true, Bool.true_or, decide_eq_true List.mem_cons_self]
    · rw [beq_eq_false_iff_ne.mpr (Ne.symm e), Bool.false_or, Bool.eq_iff_iff, decide_eq_true_iff, decide_eq_true_iff, List.mem_cons]
      exact ⟨.inr, fun h => h.resolve_left e⟩
theorem flat_strs : ∀ zs : List Str, (zs.map V.str).all flatV = true
  | [] => rfl
  | _ :: zs => flat_strs zs
/-! the work queue -/
structure WQ where
  w : List Str
  wk : Str → Option Bool
  tk : Str → Option Int
  fl : Str → Option Int
namespace WQ
def add (q : WQ) (k : Str) : WQ := if (q.wk k).isSome = true then { q with wk := setF q.wk k true } else if k ∈ q.w then q else { q with w := q.w ++ [k], tk := unsF q.tk k }
def later (q : WQ) (k : Str) (t : Int) : WQ := if t = 0 then q.add k else if k ∈ q.w then q else { q with tk := setF q.tk k (if (q.tk k).getD t < t then (q.tk k).getD t else t) }
def pass (q : WQ) (ys : List Str) : WQ := ys.foldl (fun q k => ({ q with tk := unsF q.tk k } : WQ).add k) { q with tk := fun s => (q.tk s).map (· - 1) }
def left (q : WQ) (k : Str) : WQ := { q with wk := unsF q.wk k }
def fin (q : WQ) (k : Str) : WQ := if q.wk k = some true then ({ q.left k with fl := unsF q.fl k } : WQ).add k else { q.left k with fl := unsF q.fl k }
end WQ
/-- the delay of the n-th failure -/
def delayZ (most n : Int) : Int := if (2 : Int) ^ (n - 1).toNat < most then 2 ^ (n - 1).toNat else most
def WQ.bad (q : WQ) (most : Int) (k : Str) : WQ :=
  let q1 : WQ := { q.left k with fl := setF q.fl k ((q.fl k).getD 0 + 1) }
  if q.wk k = some true then q1.add k else q1.later k (delayZ most ((q.fl k).getD 0 + 1))
/-- where the parts of a queue stand -/
structure WP where
  p : Addr
  aw : Addr
  ak : Addr
  tt : Addr
  ff : Addr
def WP.all (a : WP) : List Addr := [a.p, a.aw, a.ak, a.tt, a.ff]
def DAt {α : Type} (U : List Str) (g : α → V) (H : Hp) (d : Addr) (f : Str → Option α) : Prop := ∃ kvs, H d = some (.dK kvs) ∧ DS U g kvs f
structure WQAt (U : List Str) (C : Addr) (H : Hp) (most : Int) (a : WP) (q : WQ) : Prop where
  ob : ∃ dx, H a.p = some (.ins C dx (fl_WorkQueue (.int most) (.ref a.aw) (.ref a.ak) (.ref a.tt) (.ref a.ff)))
  hw : H a.aw = some (.lst (q.w.map V.str))
  hk : DAt U V.bl H a.ak q.wk
  ht : DAt U V.int H a.tt q.tk
  hf : DAt U V.int H a.ff q.fl
  kt : a.ak ≠ a.tt
  kf : a.ak ≠ a.ff
  tf : a.tt ≠ a.ff
  wU : ∀ x ∈ q.w, x ∈ U
  wn : q.w.Nodup
  U12 : U.length ≤ 12
/-- all but these stand as they stood -/
def Fr (L : List Addr) (H H' : Hp) : Prop := ∀ x o, H x = some o → x ∉ L → H' x = some o
theorem Fr.refl (L : List Addr) (H : Hp) : Fr L H H := fun _ _ h _ => h
theorem Fr.trans {L : List Addr} {H H' H2 : Hp} (h : Fr L H H') (g : Fr L H' H2) : Fr L H H2 := fun x o e n => g x o (h x o e n) n
theorem Fr.of_same {L : List Addr} {H H' : Hp} (h : Same H H') : Fr L H H' := fun x o e _ => h x o e
theorem Fr.up {L : List Addr} {H H' : Hp} {a : Addr} {o : HO} (h : Fr L H H') (ha : a ∈ L) : Fr L H (upd H' a o) := fun x u e n => by
  rw [upd_ne (fun z => n (by rw [z]; exact ha))]
  exact h x u e n
theorem Fr.more {L M : List Addr} {H H' : Hp} (h : Fr L H H') (s : ∀ x ∈ L, x ∈ M) : Fr M H H' := fun x o e n => h x o e fun z => n (s x z)
section
variable {U : List Str} {C : Addr} {H H' : Hp} {most : Int} {a : WP} {q : WQ}
theorem DAt.same {α : Type} {g : α → V} {d : Addr} {f : Str → Option α} (h : DAt U g H d f) (s : Same H H') : DAt U g H' d f := by
  obtain ⟨kvs, e, r⟩ := h
  exact ⟨kvs, s _ _ e, r⟩
theorem WQAt.same (h : WQAt U C H most a q) (s : Same H H') : WQAt U C H' most a q := by
  obtain ⟨dx, ob⟩ := h.ob
  exact ⟨⟨dx, s _ _ ob⟩, s _ _ h.hw, h.hk.same s, h.ht.same s, h.hf.same s, h.kt, h.kf, h.tf, h.wU, h.wn, h.U12⟩
theorem DAt.frame {α : Type} {g : α → V} {d : Addr} {f : Str → Option α} {L : List Addr} (h : DAt U g H d f) (s : Fr L H H') (n : d ∉ L) : DAt U g H' d f := by
  obtain ⟨kvs, e, r⟩ := h
  exact ⟨kvs, s _ _ e n, r⟩
theorem WQAt.frame {L : List Addr} (h : WQAt U C H most a q) (s : Fr L H H') (n : ∀ x ∈ a.all, x ∉ L) : WQAt U C H' most a q := by
  obtain ⟨dx, ob⟩ := h.ob
  have n1 := n a.p (by simp [WP.all])
  have n2 := n a.aw (by simp [WP.all])
  have n3 := n a.ak (by simp [WP.all])
  have n4 := n a.tt (by simp [WP.all])
  have n5 := n a.ff (by simp [WP.all])
  exact ⟨⟨dx, s _ _ ob n1⟩, s _ _ h.hw n2, h.hk.frame s n3, h.ht.frame s n4, h.hf.frame s n5, h.kt, h.kf, h.tf, h.wU, h.wn, h.U12⟩
end
/-- the parts are five things -/
structure Apart (a : WP) : Prop where
  pw : a.p ≠ a.aw
  pk : a.p ≠ a.ak
  pt : a.p ≠ a.tt
  pf : a.p ≠ a.ff
  wk : a.aw ≠ a.ak
  wt : a.aw ≠ a.tt
  wf : a.aw ≠ a.ff
theorem WQAt.apart {U : List Str} {C : Addr} {H : Hp} {most : Int} {a : WP} {q : WQ} (h : WQAt U C H most a q) : Apart a := by
  obtain ⟨⟨dx, ob⟩, hw, ⟨k1, hk, _⟩, ⟨k2, ht, _⟩, ⟨k3, hf, _⟩, _⟩ := h
  exact ⟨ne_of ob hw (by intro z; cases z), ne_of ob hk (by intro z; cases z), ne_of ob ht (by intro z; cases z), ne_of ob hf (by intro z; cases z), ne_of hw hk (by intro z; cases z), ne_of hw ht (by intro z; cases z), ne_of hw hf (by intro z; cases z)⟩
def sp_wqnew (C : Addr) : Sp := fun vs H Q _ => ∃ (p dx : Addr) (most : Int), vs = [.ref p, .int most] ∧ H p = some (.ins C dx []) ∧ ∀ (a : WP) (H' : Hp), a.p = p → H a.aw = none → H a.ak = none → H a.tt = none → H a.ff = none → (∀ U : List Str, U.length ≤ 12 → WQAt U C H' most a ⟨[], fun _ => none, fun _ => none, fun _ => none⟩) → Fr [p] H H' → Q .non H'
def sp_wqadd (C : Addr) : Sp := fun vs H Q _ => ∃ (U : List Str) (a : WP) (most : Int) (q : WQ) (k : Str), vs = [.ref a.p, .str k] ∧ WQAt U C H most a q ∧ k ∈ U ∧ ∀ H', WQAt U C H' most a (q.add k) → Fr a.all H H' → Q .non H'
def sp_wqlater (C : Addr) : Sp := fun vs H Q _ => ∃ (U : List Str) (a : WP) (most : Int) (q : WQ) (k : Str) (t : Int), vs = [.ref a.p, .str k, .int t] ∧ WQAt U C H most a q ∧ k ∈ U ∧ ∀ H', WQAt U C H' most a (q.later k t) → Fr a.all H H' → Q .non H'
section
variable {P : Program} {w : World} {K : PySem.W.Frag} {mg : Str → Option Value} {base : Heap}
theorem ok_WorkQueue_add (T : TX K mg) : FnOk P w K mg base CX0 1 T.a_WorkQueue_add T.d_WorkQueue_add ["self", "key"] (sp_wqadd T.a_WorkQueue) := by
  refine T.F_WorkQueue_add.ok sc_WorkQueue_add (fun vs H Q E h => ?_) (fun cdv A outer s H vs Q E hr h => ?_)
  · obtain ⟨U, a, most, q, k, rfl, _⟩ := h
    rfl
  · obtain ⟨U, a, most, q, k, rfl, hW, hU, c⟩ := h
    refine ⟨_, (pss_one (ps_if (pt_cmp (pc_din (hu_of hr) (pv 1) (pe_fld (pv 0) rfl))) (pss_one (ps_dput (hu_of hr) (pe_fld (pv 0) rfl) (pv 1) pe_bl rfl)) (pss_one (ps_if (pt_cmpR op_notIn_seq (pv 1) (pe_fld (pv 0) rfl) rfl) (pss_cons (ps_expr (pe_bm PySem.F.plainAttrs_list PySem.F.slot_list_append PySem.F.type_list_append mt_append (pe_fld (pv 0) rfl) (pa_cons (pv 1) pa_nil)))
          (pss_one (ps_expr (pe_dpop2 (pe_fld (pv 0) rfl) (pv 1) pe_non ⟨rfl, rfl, rfl, rfl⟩)))) pss_nil)))), ?_⟩
    have ap := hW.apart
    obtain ⟨⟨dx, ob⟩, hw, ⟨k1, hk, dk⟩, ⟨k2, ht, dt⟩, ⟨k3, hf, df⟩, hkt, hkf, htf, wU, wn, u12⟩ := hW
    have l1 := ds_len dk
    have l2 := ds_len dt
    have lw := nd_len wn wU
    have dg : valV k1 (Sum.inr k) = (q.wk k).map V.bl := dk.vl k
    refine ⟨_, rfl, _, rfl, a.p, _, dx, _, _, rfl, ob, T.K_WorkQueue, T.na_WorkQueue__working, fl_WorkQueue__working, a.ak, _, rfl, DGet.k (k := Sum.inr k) hk, _, rfl, ifb2 (fun h1 => ?_) (fun h1 => ?_)⟩
    · have h1' : (q.wk k).isSome = true := by rw [dg] at h1; cases e : q.wk k with | none => rw [e] at h1; cases h1 | some _ => rfl
      refine ⟨_, rfl, a.p, _, dx, _, _, rfl, ob, T.K_WorkQueue, T.na_WorkQueue__working, fl_WorkQueue__working, _, rfl, a.ak, _, rfl, DPut.k (k := Sum.inr k) hk (szl (by omega)), ?_⟩
      refine c _ ?_ (Fr.up (Fr.refl _ _) (by simp [WP.all]))
      unfold WQ.add
      rw [if_pos h1']
      exact ⟨⟨dx, by rw [upd_ne ap.pk]; exact ob⟩, by rw [upd_ne ap.wk]; exact hw, ⟨_, upd_same, ds_put dk hU true⟩, ⟨_, by rw [upd_ne hkt.symm]; exact ht, dt⟩, ⟨_, by rw [upd_ne hkf.symm]; exact hf, df⟩, hkt, hkf, htf, wU, wn, u12⟩
    · have h1' : ¬ (q.wk k).isSome = true := by rw [dg] at h1; cases e : q.wk k with | none => simp | some _ => rw [e] at h1; cases h1
      refine ⟨_, rfl, _, rfl, a.p, _, dx, _, _, rfl, ob, T.K_WorkQueue, T.na_WorkQueue__waiting, fl_WorkQueue__waiting, a.aw, _, rfl, .inl (sql hw), rfl, flat_strs _, _, rfl, ?_⟩
      rw [inV_str]
      dsimp only
      refine ifn (fun h2 => ?_) (fun h2 => ?_)
      · refine ⟨_, rfl, a.p, _, dx, _, _, rfl, ob, T.K_WorkQueue, T.na_WorkQueue__waiting, fl_WorkQueue__waiting, .inl ⟨rfl, _, sql hw⟩, _, rfl, a.aw, _, _, rfl, rfl, hw, szl (by rw [List.length_map]; omega), ?_⟩
        have ob2 : (upd H a.aw (.lst (q.w.map V.str ++ [.str k]))) a.p = some (.ins T.a_WorkQueue dx (fl_WorkQueue (.int most) (.ref a.aw) (.ref a.ak) (.ref a.tt) (.ref a.ff))) := by rw [upd_ne ap.pw]; exact ob
        have ht2 : (upd H a.aw (.lst (q.w.map V.str ++ [.str k]))) a.tt = some (.dK k2) := by rw [upd_ne ap.wt.symm]; exact ht
        have hw2 : (upd H a.aw (.lst (q.w.map V.str ++ [.str k]))) a.aw = some (.lst ((q.w ++ [k]).map V.str)) := by rw [upd_same, List.map_append]; rfl
        have hk2 : (upd H a.aw (.lst (q.w.map V.str ++ [.str k]))) a.ak = some (.dK k1) := by rw [upd_ne ap.wk.symm]; exact hk
        have hf2 : (upd H a.aw (.lst (q.w.map V.str ++ [.str k]))) a.ff = some (.dK k3) := by rw [upd_ne ap.wf.symm]; exact hf
        have fr : Fr a.all H (upd H a.aw (.lst (q.w.map V.str ++ [.str k]))) := Fr.up (Fr.refl _ _) (by simp [WP.all])
        generalize upd H a.aw (.lst (q.w.map V.str ++ [.str k])) = G at ob2 ht2 hw2 hk2 hf2 fr
        have wU2 : ∀ x ∈ q.w ++ [k], x ∈ U := fun x hx => (List.mem_append.mp hx).elim (wU x) fun e => by rw [List.mem_singleton] at e; rw [e]; exact hU
        have wn2 : (q.w ++ [k]).Nodup := List.nodup_append.mpr ⟨wn, by simp, fun x hx y hy z => h2 (by rw [List.mem_singleton] at hy; rw [← hy, ← z]; exact hx)⟩
        have ea : q.add k = { q with w := q.w ++ [k], tk := unsF q.tk k } := by unfold WQ.add; rw [if_neg h1', if_neg h2]
        rw [ea] at c
        have dtv : valV k2 (Sum.inr k) = (q.tk k).map V.int := dt.vl k
        refine ⟨_, rfl, a.p, _, dx, _, _, rfl, ob2, T.K_WorkQueue, T.na_WorkQueue__ticks, fl_WorkQueue__ticks, a.tt, rfl, .inl ⟨_, .inl ht2⟩, _, rfl, k2, Sum.inr k, ht2, rfl, fun v hv => ?_, fun hv => ?_⟩
        · refine c _ ?_ (fr.up (by simp [WP.all]))
          exact ⟨⟨dx, by rw [upd_ne ap.pt]; exact ob2⟩, by rw [upd_ne ap.wt]; exact hw2, ⟨_, by rw [upd_ne hkt]; exact hk2, dk⟩, ⟨_, upd_same, ds_drop dt k⟩, ⟨_, by rw [upd_ne htf.symm]; exact hf2, df⟩, hkt, hkf, htf, wU2, wn2, u12⟩
        · have tn : q.tk k = none := by rw [dtv] at hv; cases e : q.tk k with | none => rfl | some _ => rw [e] at hv; cases hv
          have e2 : unsF q.tk k = q.tk := by funext s; unfold unsF; split <;> simp_all
          rw [e2] at c
          exact c _ ⟨⟨dx, ob2⟩, hw2, ⟨_, hk2, dk⟩, ⟨_, ht2, dt⟩, ⟨_, hf2, df⟩, hkt, hkf, htf, wU2, wn2, u12⟩ fr
      · have ea : q.add k = q := by unfold WQ.add; rw [if_neg h1', if_pos h2]
        rw [ea] at c
        exact c H ⟨⟨dx, ob⟩, hw, ⟨_, hk, dk⟩, ⟨_, ht, dt⟩, ⟨_, hf, df⟩, hkt, hkf, htf, wU, wn, u12⟩ (Fr.refl _ _)
end
def sp_wqtake (C : Addr) : Sp := fun vs H Q _ => ∃ (U : List Str) (a : WP) (most : Int) (q : WQ), vs = [.ref a.p] ∧ WQAt U C H most a q ∧ (q.w = [] → Q .non H) ∧ (∀ k r, q.w = k :: r → ∀ H', WQAt U C H' most a { q with w := r, wk := setF q.wk k false } → Fr a.all H H' → Q (.str k) H')
def sp_wqwait (C : Addr) : Sp := fun vs H Q _ => ∃ (U : List Str) (a : WP) (most : Int) (q : WQ), vs = [.ref a.p] ∧ WQAt U C H most a q ∧ ∀ p H', H p = none → Same H H' → H' p = some (.lst (q.w.map V.str)) → Q (.ref p) H'
/-- the names that stand in a dict, in order -/
def Ord (f : Str → Bool) (ys : List Str) : Prop := ys.Nodup ∧ sortedS ys = true ∧ ∀ s, s ∈ ys ↔ f s = true
def sp_wqwork (C : Addr) : Sp := fun vs H Q _ => ∃ (U : List Str) (a : WP) (most : Int) (q : WQ), vs = [.ref a.p] ∧ WQAt U C H most a q ∧ ∀ ys p H', Ord (fun s => (q.wk s).isSome) ys → H p = none → Same H H' → H' p = some (.lst (ys.map V.str)) → Q (.ref p) H'
def sp_wqdelayed (K : PySem.W.Frag) (C : Addr) : Sp := fun vs H Q _ => ∃ (U : List Str) (a : WP) (most : Int) (q : WQ), vs = [.ref a.p] ∧ WQAt U C H most a q ∧ ∀ ys p H' xs, Ord (fun s => (q.tk s).isSome) ys → H p = none → Same H H' → H' p = some (.lst xs) → DpAll K H' xs (ys.map fun s => .tuple [.str s, .int ((q.tk s).getD 0)]) → Q (.ref p) H'
def sp_wqfails (C : Addr) : Sp := fun vs H Q _ => ∃ (U : List Str) (a : WP) (most : Int) (q : WQ) (k : Str), vs = [.ref a.p, .str k] ∧ WQAt U C H most a q ∧ Q (.int ((q.fl k).getD 0)) H
def sp_wqdelay (C : Addr) : Sp := fun vs H Q _ => ∃ (U : List Str) (a : WP) (most : Int) (q : WQ) (k : Str) (n : Int), vs = [.ref a.p, .str k] ∧ WQAt U C H most a q ∧ q.fl k = some n ∧ 1 ≤ n ∧ 1 ≤ most ∧ most ≤ 64 ∧ Q (.int (delayZ most n)) H
theorem putF_le {f : Str} {v : V} {fs : List (Str × V)} {n : Nat} (h : fs.length ≤ n) : (putF f v fs).length ≤ n + 1 := by
  induction fs generalizing n with
  | nil => simp [putF]
  | cons p r ih =>
    unfold putF
    split
    · simp only [List.length_cons] at h ⊢
      omega
    · simp only [List.length_cons] at h ⊢
      have := ih (n := n - 1) (by omega)
      omega
theorem putF_lt {fs : List (Str × V)} {n : Nat} (h : fs.length ≤ n) (g : n < 1000) : fs.length < 1000 := by omega
theorem pow_le2 : ∀ {i j : Nat}, i ≤ j → (2 : Int) ^ i ≤ 2 ^ j := fun {i j} h => by
  obtain ⟨d, rfl⟩ := Nat.exists_eq_add_of_le h
  rw [Int.pow_add]
  have h1 : (0 : Int) < 2 ^ i := Int.pow_pos (by decide)
  have h2 : (0 : Int) < 2 ^ d := Int.pow_pos (by decide)
  have : (2 : Int) ^ i * 1 ≤ 2 ^ i * 2 ^ d := Int.mul_le_mul_of_nonneg_left (by omega) (by omega)
  omega
section
variable {P : Program} {w : World} {K : PySem.W.Frag} {mg : Str → Option Value} {base : Heap}
theorem ok_WorkQueue___init__ (T : TX K mg) : FnOk P w K mg base CX0 1 T.a_WorkQueue___init__ T.d_WorkQueue___init__ ["self", "most"] (sp_wqnew T.a_WorkQueue) := by
  refine okD T.FD_WorkQueue___init__ sc_WorkQueue___init__ (fun vs H Q E h => ?_) (fun cdv A outer s H vs Q E hr h => ?_)
  · obtain ⟨p, dx, most, rfl, _⟩ := h
    rfl
  · obtain ⟨p, dx, most, rfl, hp, c⟩ := h
    refine ⟨_, (pss_cons (ps_fld (pv 0) (pv 1) rfl)
      (pss_cons (ps_fld (pv 0) (pe_lst pa_nil) rfl)
      (pss_cons (ps_fld (pv 0) pe_dnewK rfl)
      (pss_cons (ps_fld (pv 0) pe_dnewK rfl)
      (pss_one (ps_fld (pv 0) pe_dnewK rfl)))))), ?_⟩
    refine ⟨_, rfl, _, rfl, p, T.a_WorkQueue, dx, [], rfl, hp, T.K_WorkQueue, T.na_WorkQueue__most, (by show 0 < 1000; decide), ?_⟩
    refine ⟨Nat.zero_le _, fun aw haw => ⟨_, rfl, p, T.a_WorkQueue, dx, _, rfl, by rw [upd_ne (fun z => by rw [← z, upd_same] at haw; cases haw), upd_same], T.K_WorkQueue, T.na_WorkQueue__waiting, (by show 1 < 1000; decide), ?_⟩⟩
    have n1 : aw ≠ p := fun z => by rw [z, upd_same] at haw; cases haw
    rw [upd_ne n1] at haw
    refine fun ak hak => ⟨_, rfl, p, T.a_WorkQueue, dx, _, rfl, by rw [upd_ne (fun z => by rw [← z, upd_same] at hak; cases hak), upd_same], T.K_WorkQueue, T.na_WorkQueue__working, (putF_lt (putF_le (putF_le (Nat.le_refl 0))) (by decide)), ?_⟩
    have n2 : ak ≠ p := fun z => by rw [z, upd_same] at hak; cases hak
    rw [upd_ne n2] at hak
    have n3 : ak ≠ aw := fun z => by rw [z, upd_same] at hak; cases hak
    rw [upd_ne n3, upd_ne n2] at hak
    refine fun tt htt => ⟨_, rfl, p, T.a_WorkQueue, dx, _, rfl, by rw [upd_ne (fun z => by rw [← z, upd_same] at htt; cases htt), upd_same], T.K_WorkQueue, T.na_WorkQueue__ticks, (putF_lt (putF_le (putF_le (putF_le (Nat.le_refl 0)))) (by decide)), ?_⟩
    have n4 : tt ≠ p := fun z => by rw [z, upd_same] at htt; cases htt
    rw [upd_ne n4] at htt
    have n5 : tt ≠ ak := fun z => by rw [z, upd_same] at htt; cases htt
    rw [upd_ne n5, upd_ne n4] at htt
    have n6 : tt ≠ aw := fun z => by rw [z, upd_same] at htt; cases htt
    rw [upd_ne n6, upd_ne n4] at htt
    refine fun ff hff => ⟨_, rfl, p, T.a_WorkQueue, dx, _, rfl, by rw [upd_ne (fun z => by rw [← z, upd_same] at hff; cases hff), upd_same], T.K_WorkQueue, T.na_WorkQueue__failures, (putF_lt (putF_le (putF_le (putF_le (putF_le (Nat.le_refl 0))))) (by decide)), ?_⟩
    have m4 : ff ≠ p := fun z => by rw [z, upd_same] at hff; cases hff
    rw [upd_ne m4] at hff
    have m5 : ff ≠ tt := fun z => by rw [z, upd_same] at hff; cases hff
    rw [upd_ne m5, upd_ne m4] at hff
    have m6 : ff ≠ ak := fun z => by rw [z, upd_same] at hff; cases hff
    rw [upd_ne m6, upd_ne m4] at hff
    have m7 : ff ≠ aw := fun z => by rw [z, upd_same] at hff; cases hff
    rw [upd_ne m7, upd_ne m4] at hff
    refine c ⟨p, aw, ak, tt, ff⟩ _ rfl haw hak htt hff ?_ ?_
    · intro U u12
      refine ⟨⟨dx, ?_⟩, ?_, ⟨[], ?_, ds_nil⟩, ⟨[], ?_, ds_nil⟩, ⟨[], ?_, ds_nil⟩, n5.symm, m6.symm, m5.symm, (fun _ h => by cases h), List.nodup_nil, u12⟩
      · rw [upd_same, fl_WorkQueue_new]
      · rw [upd_ne n1, upd_ne m7.symm, upd_ne n1, upd_ne n6.symm, upd_ne n1, upd_ne n3.symm, upd_ne n1, upd_same]
        rfl
      · rw [upd_ne n2, upd_ne m6.symm, upd_ne n2, upd_ne n5.symm, upd_ne n2, upd_same]
      · rw [upd_ne n4, upd_ne m5.symm, upd_ne n4, upd_same]
      · rw [upd_ne m4, upd_same]
    · intro x o hx hxp
      have hxp' : x ≠ p := by simpa using hxp
      rw [upd_ne hxp', upd_ne (ne_of_none hx hff), upd_ne hxp', upd_ne (ne_of_none hx htt), upd_ne hxp', upd_ne (ne_of_none hx hak), upd_ne hxp', upd_ne (ne_of_none hx haw), upd_ne hxp']
      exact hx
theorem ok_WorkQueue_waiting (T : TX K mg) : FnOk P w K mg base CX0 1 T.a_WorkQueue_waiting T.d_WorkQueue_waiting ["self"] (sp_wqwait T.a_WorkQueue) := by
  refine T.F_WorkQueue_waiting.ok sc_WorkQueue_waiting (fun vs H Q E h => ?_) (fun cdv A outer s H vs Q E hr h => ?_)
  · obtain ⟨U, a, most, q, rfl, _⟩ := h
    rfl
  · obtain ⟨U, a, most, q, rfl, hW, c⟩ := h
    refine ⟨_, (pss_one (ps_ret (pe_callTy call_list_of (by rfl) T.n_list (by decide +kernel) (pa_cons (pe_fld (pv 0) rfl) pa_nil)))), ?_⟩
    obtain ⟨dx, ob⟩ := hW.ob
    exact ⟨_, rfl, a.p, _, dx, _, _, rfl, ob, T.K_WorkQueue, T.na_WorkQueue__waiting, fl_WorkQueue__waiting, a.aw, _, rfl, .inl (sql hW.hw), fun l hl => c l _ hl (same_upd hl) upd_same⟩
theorem ok_WorkQueue_in_work (T : TX K mg) : FnOk P w K mg base CX0 1 T.a_WorkQueue_in_work T.d_WorkQueue_in_work ["self"] (sp_wqwork T.a_WorkQueue) := by
  refine T.F_WorkQueue_in_work.ok sc_WorkQueue_in_work (fun vs H Q E h => ?_) (fun cdv A outer s H vs Q E hr h => ?_)
  · obtain ⟨U, a, most, q, rfl, _⟩ := h
    rfl
  · obtain ⟨U, a, most, q, rfl, hW, c⟩ := h
    refine ⟨_, (pss_one (ps_ret (pe_callB (call_sortedD rfl) (by rfl) T.n_sorted (by decide +kernel) (pa_cons (pe_fld (pv 0) rfl) pa_nil)))), ?_⟩
    obtain ⟨dx, ob⟩ := hW.ob
    obtain ⟨k1, hk, dk⟩ := hW.hk
    have u12 := hW.U12
    have l1 := ds_len dk
    refine ⟨_, rfl, a.p, _, dx, _, _, rfl, ob, T.K_WorkQueue, T.na_WorkQueue__working, fl_WorkQueue__working, a.ak, k1, _, rfl, .inl hk, keys_map dk, by rw [List.length_map]; omega, fun ys p hp hs hf => ?_⟩
    exact c ys p _ ⟨hp.nodup_iff.mpr (keys_nd dk), hs, fun s => by rw [hp.mem_iff, key_iff dk]⟩ hf (same_upd hf) upd_same
theorem ok_WorkQueue_failures (T : TX K mg) : FnOk P w K mg base CX0 1 T.a_WorkQueue_failures T.d_WorkQueue_failures ["self", "key"] (sp_wqfails T.a_WorkQueue) := by
  refine T.F_WorkQueue_failures.ok sc_WorkQueue_failures (fun vs H Q E h => ?_) (fun cdv A outer s H vs Q E hr h => ?_)
  · obtain ⟨U, a, most, q, k, rfl, _⟩ := h
    rfl
  · obtain ⟨U, a, most, q, k, rfl, hW, c⟩ := h
    refine ⟨_, (pss_one (ps_ret (pe_dget2 (hu_of hr) (pe_fld (pv 0) rfl) (pv 1) pe_int ⟨rfl, rfl, rfl, rfl⟩))), ?_⟩
    obtain ⟨dx, ob⟩ := hW.ob
    obtain ⟨k3, hf, df⟩ := hW.hf
    refine ⟨_, rfl, a.p, _, dx, _, _, rfl, ob, T.K_WorkQueue, T.na_WorkQueue__failures, fl_WorkQueue__failures, a.ff, rfl, .inl ⟨_, .inl hf⟩, _, rfl, _, DGet.k (k := Sum.inr k) hf, ?_⟩
    rw [show valV k3 (Sum.inr k) = (q.fl k).map V.int from df.vl k]
    rw [show ((q.fl k).map V.int).getD (.int 0) = .int ((q.fl k).getD 0) by cases q.fl k <;> rfl]
    exact c
theorem ok_WorkQueue_take (T : TX K mg) : FnOk P w K mg base CX0 1 T.a_WorkQueue_take T.d_WorkQueue_take ["self"] (sp_wqtake T.a_WorkQueue) := by
  refine T.F_WorkQueue_take.ok sc_WorkQueue_take (fun vs H Q E h => ?_) (fun cdv A outer s H vs Q E hr h => ?_)
  · obtain ⟨U, a, most, q, rfl, _⟩ := h
    rfl
  · obtain ⟨U, a, most, q, rfl, hW, c0, c1⟩ := h
    refine ⟨_, (pss_cons (ps_if (pt_not (pt_truth (pe_fld (pv 0) rfl) (by intro _; rfl))) (pss_one (ps_ret pe_non)) pss_nil)
      (pss_cons (ps_set (i := 1) sc_WorkQueue_take.nd rfl (Or.inl rfl) (pe_bm PySem.F.plainAttrs_list PySem.F.slot_list_pop PySem.F.type_list_pop mt_popAt (pe_fld (pv 0) rfl) (pa_cons pe_int pa_nil)))
      (pss_cons (ps_dput (hu_of hr) (pe_fld (pv 0) rfl) (pv 1) pe_bl rfl)
      (pss_one (ps_ret (pv 1)))))), ?_⟩
    have ap := hW.apart
    obtain ⟨⟨dx, ob⟩, hw, ⟨k1, hk, dk⟩, ⟨k2, ht, dt⟩, ⟨k3, hf, df⟩, hkt, hkf, htf, wU, wn, u12⟩ := hW
    have l1 := ds_len dk
    refine ⟨_, rfl, a.p, _, dx, _, _, rfl, ob, T.K_WorkQueue, T.na_WorkQueue__waiting, fl_WorkQueue__waiting, _, .inl ⟨_, sql hw, rfl⟩, ?_⟩
    cases e : q.w with
    | nil => exact c0 e
    | cons k r =>
      rw [e] at hw wU wn
      refine ⟨_, rfl, a.p, _, dx, _, _, rfl, ob, T.K_WorkQueue, T.na_WorkQueue__waiting, fl_WorkQueue__waiting, .inl ⟨rfl, _, sql hw⟩, a.aw, _, 0, 0, .str k, rfl, rfl, hw, by decide, by decide, (ixN_seq (ixn (j := 0) rfl (by simp))).1, rfl, ?_⟩
      have ob2 : (upd H a.aw (.lst (r.map V.str))) a.p = some (.ins T.a_WorkQueue dx (fl_WorkQueue (.int most) (.ref a.aw) (.ref a.ak) (.ref a.tt) (.ref a.ff))) := by rw [upd_ne ap.pw]; exact ob
      have hk2 : (upd H a.aw (.lst (r.map V.str))) a.ak = some (.dK k1) := by rw [upd_ne ap.wk.symm]; exact hk
      refine ⟨_, rfl, a.p, _, dx, _, _, rfl, ob2, T.K_WorkQueue, T.na_WorkQueue__working, fl_WorkQueue__working, _, rfl, a.ak, _, rfl, DPut.k (k := Sum.inr k) hk2 (szl (by omega)), _, rfl, ?_⟩
      refine c1 k r e _ ⟨⟨dx, by rw [upd_ne ap.pk]; exact ob2⟩, by rw [upd_ne ap.wk]; exact upd_same, ⟨_, upd_same, ds_put dk (wU k List.mem_cons_self) false⟩, ⟨_, by rw [upd_ne hkt.symm, upd_ne ap.wt.symm]; exact ht, dt⟩, ⟨_, by rw [upd_ne hkf.symm, upd_ne ap.wf.symm]; exact hf, df⟩, hkt, hkf, htf, fun x hx => wU x (List.mem_cons_of_mem _ hx), (List.nodup_cons.mp wn).2, u12⟩ ((Fr.refl _ _).up (by simp [WP.all]) |>.up (by simp [WP.all]))
theorem ok_WorkQueue_add_later (T : TX K mg) : FnOk P w K mg base CX0 2 T.a_WorkQueue_add_later T.d_WorkQueue_add_later ["self", "key", "ticks"] (sp_wqlater T.a_WorkQueue) := by
  refine T.F_WorkQueue_add_later.ok sc_WorkQueue_add_later (fun vs H Q E h => ?_) (fun cdv A outer s H vs Q E hr h => ?_)
  · obtain ⟨U, a, most, q, k, t, rfl, _⟩ := h
    rfl
  · obtain ⟨U, a, most, q, k, t, rfl, hW, hU, c⟩ := h
    refine ⟨_, (pss_one (ps_if (pt_cmpR op_eq (pv 2) pe_int (nomark _)) (pss_one (ps_expr (pe_meth (pv 0) T.K_WorkQueue T.m_WorkQueue_add (ok_WorkQueue_add T) (hr.mono (by decide)) T.b_WorkQueue_add .nil pass0 (pa_cons (pv 1) pa_nil)))) (pss_one (ps_if (pt_cmpR op_notIn_seq (pv 1) (pe_fld (pv 0) rfl) rfl) (pss_one (ps_dput (hu_of hr) (pe_fld (pv 0) rfl) (pv 1) (pe_callB (call_min2 rfl) (by rfl) T.n_min (by decide +kernel) (pa_cons (pv 2) (pa_cons (pe_dget2 (hu_of hr) (pe_fld (pv 0) rfl) (pv 1) (pv 2) ⟨rfl, rfl, rfl, rfl⟩) pa_nil))) rfl)) pss_nil)))), ?_⟩
    have ap := hW.apart
    have hW0 := hW
    obtain ⟨⟨dx, ob⟩, hw, ⟨k1, hk, dk⟩, ⟨k2, ht, dt⟩, ⟨k3, hf, df⟩, hkt, hkf, htf, wU, wn, u12⟩ := hW
    have l2 := ds_len dt
    refine ⟨_, rfl, rfl, _, rfl, ifd (fun h1 => ?_) (fun h1 => ?_)⟩
    · have h1' : t = 0 := V.int.inj h1
      unfold WQ.later at c
      rw [if_pos h1'] at c
      exact ⟨_, rfl, a.p, dx, _, rfl, ob, fl_WorkQueue_no_add, _, rfl, U, a, most, q, k, rfl, hW0, hU, c⟩
    · have h1' : ¬ t = 0 := fun z => h1 (by rw [z])
      unfold WQ.later at c
      rw [if_neg h1'] at c
      refine ⟨_, rfl, _, rfl, a.p, _, dx, _, _, rfl, ob, T.K_WorkQueue, T.na_WorkQueue__waiting, fl_WorkQueue__waiting, a.aw, _, rfl, .inl (sql hw), rfl, flat_strs _, _, rfl, ?_⟩
      rw [inV_str]
      dsimp only
      refine ifn (fun h2 => ?_) (fun h2 => ?_)
      · rw [if_neg h2] at c
        refine ⟨_, rfl, _, rfl, a.p, _, dx, _, _, rfl, ob, T.K_WorkQueue, T.na_WorkQueue__ticks, fl_WorkQueue__ticks, a.tt, rfl, .inl ⟨_, .inl ht⟩, _, rfl, _, rfl, _, DGet.k (k := Sum.inr k) ht, ?_⟩
        rw [show valV k2 (Sum.inr k) = (q.tk k).map V.int from dt.vl k]
        rw [show ((q.tk k).map V.int).getD (.int t) = .int ((q.tk k).getD t) by cases q.tk k <;> rfl]
        refine ⟨_, _, rfl, _, rfl, a.p, _, dx, _, _, rfl, ob, T.K_WorkQueue, T.na_WorkQueue__ticks, fl_WorkQueue__ticks, _, rfl, a.tt, _, rfl, DPut.k (k := Sum.inr k) ht (szl (by omega)), ?_⟩
        exact c _ ⟨⟨dx, by rw [upd_ne ap.pt]; exact ob⟩, by rw [upd_ne ap.wt]; exact hw, ⟨_, by rw [upd_ne hkt]; exact hk, dk⟩, ⟨_, upd_same, ds_put dt hU _⟩, ⟨_, by rw [upd_ne htf.symm]; exact hf, df⟩, hkt, hkf, htf, wU, wn, u12⟩ ((Fr.refl _ _).up (by simp [WP.all]))
      · rw [if_pos h2] at c
        exact c H hW0 (Fr.refl _ _)
theorem ok_WorkQueue__delay (T : TX K mg) : FnOk P w K mg base CX0 1 T.a_WorkQueue__delay T.d_WorkQueue__delay ["self", "key"] (sp_wqdelay T.a_WorkQueue) := by
  refine T.F_WorkQueue__delay.ok sc_WorkQueue__delay (fun vs H Q E h => ?_) (fun cdv A outer s H vs Q E hr h => ?_)
  · obtain ⟨U, a, most, q, k, n, rfl, _⟩ := h
    rfl
  · obtain ⟨U, a, most, q, k, n, rfl, hW, hn, n1, m1, m64, c⟩ := h
    refine ⟨_, (pss_cons (ps_set (i := 2) sc_WorkQueue__delay.nd rfl (Or.inl rfl) pe_int)
      (pss_cons (ps_set (i := 3) sc_WorkQueue__delay.nd rfl (Or.inl rfl) (pe_dget (hu_of hr) (pe_fld (pv 0) rfl) (pv 1) (fun _ _ => rfl)))
      (pss_cons (ps_while PassesOwn.never (PW.pt (pw_and (pt_cmpR op_gt (pv 3) pe_int (nomark _)) (pw_and1 (pt_cmpR op_lt (pv 2) (pe_fld (pv 0) rfl) (nomark _)))))
        (pss_cons (ps_aug (i := 2) sc_WorkQueue__delay.nd rfl (Or.inl rfl) pe_int ip_mul)
        (pss_one (ps_aug (i := 3) sc_WorkQueue__delay.nd rfl (Or.inl rfl) pe_int ip_sub))))
      (pss_one (ps_ret (pe_callB (call_min2 rfl) (by rfl) T.n_min (by decide +kernel) (pa_cons (pv 2) (pa_cons (pe_fld (pv 0) rfl) pa_nil)))))))), ?_⟩
    obtain ⟨dx, ob⟩ := hW.ob
    obtain ⟨k3, hf, df⟩ := hW.hf
    have hv : valV k3 (Sum.inr k) = some (.int n) := by rw [df.vl k, hn]; rfl
    refine ⟨_, rfl, a.p, _, dx, _, _, rfl, ob, T.K_WorkQueue, T.na_WorkQueue__failures, fl_WorkQueue__failures, _, rfl, a.ff, .int n, rfl, by rw [← hv]; exact DGet.k (k := Sum.inr k) hf, ?_⟩
    refine while_by (fun σ H' => H' = H ∧ ∃ (j : Nat) (d : Int), σ = [some (.ref a.p), some (.str k), some (.int d), some (.int (n - j))] ∧ d = 2 ^ j ∧ 1 ≤ n - j ∧ d ≤ 128)
      (fun σ _ => match σ with | [_, _, _, some (.int m)] => m.toNat | _ => 0)
      ⟨rfl, 0, 1, congrArg (fun m => [some (V.ref a.p), some (V.str k), some (V.int 1), some (V.int m)]) (show n = n - ((0 : Nat) : Int) by omega), rfl, by omega, by decide⟩ ?_
      (fun σ H Q Q' hq h => ?_)
    · rintro σ _ ⟨rfl, j, d, rfl, hd, hj, h128⟩
      refine ⟨_, rfl, _, _, rfl, rfl, _, rfl, ifd (fun h1 => ?_) (fun h1 => ?_)⟩
      · have h1' : (1 : Int) < n - j := h1
        refine ⟨_, rfl, _, rfl, a.p, _, dx, _, _, rfl, ob, T.K_WorkQueue, T.na_WorkQueue__most, fl_WorkQueue__most, _, _, rfl, rfl, _, rfl, ifd (fun h2 => ?_) (fun h2 => ?_)⟩
        · have h2' : d < most := h2
          refine ⟨_, rfl, _, _, rfl, rfl, ⟨by rw [hd]; have : (0 : Int) < 2 ^ j := Int.pow_pos (by decide); omega, by omega⟩, _, rfl, _, _, rfl, rfl, ⟨rfl, j + 1, d * 2, ?_, ?_, by omega, by omega⟩, ?_⟩
          · have : n - (j : Int) - 1 = n - ((j + 1 : Nat) : Int) := by omega
            rw [← this]
            rfl
          · rw [hd, Int.pow_succ]
          · show (n - (j : Int) - 1).toNat < (n - (j : Int)).toNat
            omega
        · have h2' : ¬ d < most := h2
          refine ⟨_, rfl, _, rfl, a.p, _, dx, _, _, rfl, ob, T.K_WorkQueue, T.na_WorkQueue__most, fl_WorkQueue__most, _, _, rfl, ?_⟩
          have e1 : delayZ most n = most := by
            unfold delayZ
            have : (2 : Int) ^ j ≤ 2 ^ (n - 1).toNat := pow_le2 (by omega)
            rw [if_neg (by rw [hd] at h2'; omega)]
          rw [e1] at c
          by_cases h3 : most < d
          · rw [if_pos h3]; exact c
          · rw [if_neg h3]; rw [show d = most by omega]; exact c
      · have h1' : ¬ (1 : Int) < n - j := h1
        refine ⟨_, rfl, _, rfl, a.p, _, dx, _, _, rfl, ob, T.K_WorkQueue, T.na_WorkQueue__most, fl_WorkQueue__most, _, _, rfl, ?_⟩
        have ej : (n - 1).toNat = j := by omega
        unfold delayZ at c
        rw [ej, ← hd] at c
        by_cases h3 : most < d
        · rw [if_pos h3]
          rw [if_neg (by omega)] at c
          exact c
        · rw [if_neg h3]
          by_cases h4 : d < most
          · rw [if_pos h4] at c
            exact c
          · rw [if_neg h4] at c
            rw [show d = most by omega]
            exact c
    · obtain ⟨v, h1, i, j, e1, e2, b, e3, h⟩ := h
      refine ⟨v, h1, i, j, e1, e2, b, e3, ?_⟩
      cases b with
      | false => exact hq _ _ h
      | true =>
        obtain ⟨v2, g1, v3, g2, x, C, dx, fs, y, g3, g4, g5, g6, g7, i2, j2, g8, g9, b2, g10, h⟩ := h
        exact ⟨v2, g1, v3, g2, x, C, dx, fs, y, g3, g4, g5, g6, g7, i2, j2, g8, g9, b2, g10, hq _ _ h⟩
end
def sp_wqtick (C : Addr) : Sp := fun vs H Q _ => ∃ (U : List Str) (a : WP) (most : Int) (q : WQ), vs = [.ref a.p] ∧ WQAt U C H most a q ∧
  ∀ (ys : List Str) (d : Addr) (H' : Hp), Ord (fun s => decide (q.tk s = some 1)) ys → H d = none → WQAt U C H' most { a with tt := d } (q.pass ys) → Fr a.all H H' → Q .non H'
def decV : V → V
  | .int t => .int (t - 1)
  | v => v
def decF (f : Str → Option Int) : Str → Option Int := fun s => (f s).map (· - 1)
theorem ds_map {α : Type} {U : List Str} {g : α → V} {kvs : List (Key × V)} {f : Str → Option α} (h : DS U g kvs f) (G : V → V) (e : α → α) (he : ∀ x, G (g x) = g (e x)) :
    DS U g ((kvs.filter fun _ => true).map fun kv => (kv.1, G kv.2)) (fun s => (f s).map e) := by
  have e0 : (kvs.filter fun _ => true) = kvs := List.filter_eq_self.mpr fun _ _ => rfl
  rw [e0]
  refine ⟨?_, ?_, fun s => ?_⟩
  · rw [List.map_map]
    exact h.nd
  · intro kv hm
    obtain ⟨kv', hm', rfl⟩ := List.mem_map.mp hm
    exact h.ks kv' hm'
  · have e1 : ∀ l : List (Key × V), valV (l.map fun kv => (kv.1, G kv.2)) (Sum.inr s) = (valV l (Sum.inr s)).map G := by
      intro l
      induction l with
      | nil => rfl
      | cons p r ih =>
        rw [List.map_cons]
        by_cases hp : p.1 = Sum.inr s
        · rw [valV_pos (p := (p.1, G p.2)) hp, valV_pos hp]
          rfl
        · rw [valV_neg (p := (p.1, G p.2)) hp, valV_neg hp, ih]
    rw [e1, h.vl]
    cases f s with
    | none => rfl
    | some x => exact congrArg some (he x)
theorem val_at : ∀ {kvs : List (Key × V)} {i : Nat} {k : Key} {v : V}, (kvs.map (·.1)).Nodup → kvs[i]? = some (k, v) → valV kvs k = some v
  | [], i, k, v, _, h => by simp at h
  | kv :: r, 0, k, v, nd, h => by
    simp only [List.getElem?_cons_zero, Option.some.injEq] at h
    subst h
    exact valV_pos rfl
  | kv :: r, i + 1, k, v, nd, h => by
    simp only [List.getElem?_cons_succ] at h
    rw [List.map_cons, List.nodup_cons] at nd
    rw [valV_neg fun z => nd.1 (by rw [z]; exact List.mem_map.mpr ⟨_, List.mem_of_getElem? h, rfl⟩)]
    exact val_at nd.2 h
/-- a text's entry -/
theorem ds_at {α : Type} {U : List Str} {g : α → V} {kvs : List (Key × V)} {f : Str → Option α} (h : DS U g kvs f) {i : Nat} {k : Key} {v : V} (e : kvs[i]? = some (k, v)) : ∃ s x, k = Sum.inr s ∧ f s = some x ∧ v = g x ∧ valV kvs (Sum.inr s) = some (g x) := by
  obtain ⟨s, _, hk⟩ := h.ks _ (List.mem_of_getElem? e)
  have hk' : k = Sum.inr s := hk
  subst hk'
  have hv := val_at h.nd e
  have h2 := hv
  rw [h.vl s] at h2
  cases hf : f s with
  | none => rw [hf] at h2; cases h2
  | some x =>
    rw [hf] at h2
    have : v = g x := (Option.some.inj h2).symm
    exact ⟨s, x, rfl, hf, this, by rw [hv, this]⟩
def WQ.step (q : WQ) (k : Str) : WQ := ({ q with tk := unsF q.tk k } : WQ).add k
theorem step_tk (q : WQ) (k : Str) : (q.step k).tk = unsF q.tk k := by
  unfold WQ.step WQ.add
  have : unsF (unsF q.tk k) k = unsF q.tk k := by funext s; unfold unsF; split <;> rfl
  dsimp only
  split
  · rfl
  · split
    · rfl
    · exact this
theorem fold_tk : ∀ (ys : List Str) (q : WQ) (s : Str), (ys.foldl WQ.step q).tk s = if s ∈ ys then none else q.tk s
  | [], q, s => by simp
  | y :: ys, q, s => by
    rw [List.foldl_cons, fold_tk ys, step_tk]
    unfold unsF
    by_cases h : s ∈ ys
    · simp [h]
    · by_cases h2 : s = y
      · simp [h, h2]
      · simp [h, h2]
section
variable {P : Program} {w : World} {K : PySem.W.Frag} {mg : Str → Option Value} {base : Heap}
theorem ok_WorkQueue_tick (T : TX K mg) : FnOk P w K mg base CX0 2 T.a_WorkQueue_tick T.d_WorkQueue_tick ["self"] (sp_wqtick T.a_WorkQueue) := by
  refine T.F_WorkQueue_tick.ok sc_WorkQueue_tick (fun vs H Q E h => ?_) (fun cdv A outer s H vs Q E hr h => ?_)
  · obtain ⟨U, a, most, q, rfl, _⟩ := h
    rfl
  · obtain ⟨U, a, most, q, rfl, hW, c⟩ := h
    refine ⟨_, (pss_cons (ps_fld (pv 0) (pe_lock (pe_dc (own := [("key", 2)]) (g := gName 2) (tt := tYes) (by rfl) sc_WorkQueue_tick.nd (pi_keys (pe_fld (pv 0) rfl)) (blkOk_by (own := [("key", 2)]) (N := ["self", "ended", "key"]) (sc := defScope s_WorkQueue_tick) (by decide +kernel)) (fun _ _ _ _ _ => pg_name (i := 2) sc_WorkQueue_tick.nd rfl (Or.inl rfl)) (fun _ _ _ _ _ => pts_nil) (fun _ _ _ _ _ => (pv 2)) (fun _ _ _ _ _ => (pe_op op_sub (pe_dget (hu_of hr) (pe_fldK (K := K) rfl (pv 0) rfl) (pv 2) (fun _ _ => rfl)) pe_int)))) rfl)
      (pss_cons (ps_set (i := 1) sc_WorkQueue_tick.nd rfl (Or.inl rfl) (pe_callB cr_sortedS (by rfl) T.n_sorted (by decide +kernel) (pa_cons (pe_lock (pe_lc (own := [("key", 2)]) (g := gName 2)  (by rfl) sc_WorkQueue_tick.nd (pi_keys (pe_fld (pv 0) rfl)) (blkOk_by (own := [("key", 2)]) (N := ["self", "ended", "key"]) (sc := defScope s_WorkQueue_tick) (by decide +kernel)) (fun _ _ _ _ _ => pg_name (i := 2) sc_WorkQueue_tick.nd rfl (Or.inl rfl)) (fun _ _ _ _ _ => pts_one (pt_cmpR op_eq (pe_dget (hu_of hr) (pe_fldK (K := K) rfl (pv 0) rfl) (pv 2) (fun _ _ => rfl)) pe_int (nomark _))) (fun _ _ _ _ _ => (pv 2)))) pa_nil)))
      (pss_one (ps_for PassesOwn.never rfl (pi_list (pv 1)) (pg_name (i := 2) sc_WorkQueue_tick.nd rfl (Or.inl rfl))
        (pss_cons (ps_ddel (pe_fld (pv 0) rfl) (pv 2))
        (pss_one (ps_expr (pe_meth (pv 0) T.K_WorkQueue T.m_WorkQueue_add (ok_WorkQueue_add T) (hr.mono (by decide)) T.b_WorkQueue_add .nil pass0 (pa_cons (pv 2) pa_nil))))))))), ?_⟩
    have ap := hW.apart
    obtain ⟨⟨dx, ob⟩, hw, ⟨k1, hk, dk⟩, ⟨k2, ht, dt⟩, ⟨k3, hf, df⟩, hkt, hkf, htf, wU, wn, u12⟩ := hW
    have l2 := ds_len dt
    dsimp only [L2.tSeq, L2.sFld]
    refine dc_keys (s := 2) a.tt k2 (fun _ => true) (fun kv => decV kv.2) ht (by omega) dt.nd (fun od => ei_fld rfl (by rw [upd_ne ap.pt]; exact ob) T.K_WorkQueue T.na_WorkQueue__ticks fl_WorkQueue__ticks) ?_ (fun od i k v G Q' hk _ q => ?_) (fun od i k v G Q' hk hf s q => ?_) ?_ (fun D H' hD hs hl => ?_)
    · exact fun _ => rfl
    · exact q
    · obtain ⟨z, x, rfl, hx, rfl, hv⟩ := ds_at dt hk
      refine ⟨_, rfl, a.p, _, dx, _, _, rfl, s _ _ (by rw [upd_ne ap.pt]; exact ob), T.K_WorkQueue, T.na_WorkQueue__ticks, fl_WorkQueue__ticks, _, rfl, a.tt, .int x, rfl, ?_, _, _, rfl, rfl, q⟩
      rw [← hv]
      exact .inl ⟨k2, _, .inr ⟨od, s _ _ upd_same⟩, rfl, rfl⟩
    · intro i h
      rw [← h]
      exact Nat.lt_succ_self 2
    · have nDp : D ≠ a.p := fun z => by rw [z, ob] at hD; cases hD
      have nDw : D ≠ a.aw := fun z => by rw [z, hw] at hD; cases hD
      have nDk : D ≠ a.ak := fun z => by rw [z, hk] at hD; cases hD
      have nDf : D ≠ a.ff := fun z => by rw [z, hf] at hD; cases hD
      refine ⟨_, rfl, a.p, T.a_WorkQueue, dx, _, rfl, hs _ _ ob, T.K_WorkQueue, T.na_WorkQueue__ticks, (by show 5 < 1000; decide), ?_⟩
      rw [pf_WorkQueue__ticks]
      have fr0 : Fr a.all H (upd H' a.p (.ins T.a_WorkQueue dx (fl_WorkQueue (.int most) (.ref a.aw) (.ref a.ak) (.ref D) (.ref a.ff)))) := (Fr.of_same hs).up (by simp [WP.all])
      have ob1 : (upd H' a.p (.ins T.a_WorkQueue dx (fl_WorkQueue (.int most) (.ref a.aw) (.ref a.ak) (.ref D) (.ref a.ff)))) a.p = some (.ins T.a_WorkQueue dx (fl_WorkQueue (.int most) (.ref a.aw) (.ref a.ak) (.ref D) (.ref a.ff))) := upd_same
      have hw1 : (upd H' a.p (.ins T.a_WorkQueue dx (fl_WorkQueue (.int most) (.ref a.aw) (.ref a.ak) (.ref D) (.ref a.ff)))) a.aw = some (.lst (q.w.map V.str)) := by rw [upd_ne ap.pw.symm]; exact hs _ _ hw
      have ht1 : (upd H' a.p (.ins T.a_WorkQueue dx (fl_WorkQueue (.int most) (.ref a.aw) (.ref a.ak) (.ref D) (.ref a.ff)))) a.tt = some (.dK k2) := by rw [upd_ne ap.pt.symm]; exact hs _ _ ht
      have hk1 : (upd H' a.p (.ins T.a_WorkQueue dx (fl_WorkQueue (.int most) (.ref a.aw) (.ref a.ak) (.ref D) (.ref a.ff)))) a.ak = some (.dK k1) := by rw [upd_ne ap.pk.symm]; exact hs _ _ hk
      have hf1 : (upd H' a.p (.ins T.a_WorkQueue dx (fl_WorkQueue (.int most) (.ref a.aw) (.ref a.ak) (.ref D) (.ref a.ff)))) a.ff = some (.dK k3) := by rw [upd_ne ap.pf.symm]; exact hs _ _ hf
      have hD1 : (upd H' a.p (.ins T.a_WorkQueue dx (fl_WorkQueue (.int most) (.ref a.aw) (.ref a.ak) (.ref D) (.ref a.ff)))) D = some (.dK ((k2.filter fun kv => true).map fun kv => (kv.1, decV kv.2))) := by rw [upd_ne nDp]; exact hl
      generalize upd H' a.p (.ins T.a_WorkQueue dx (fl_WorkQueue (.int most) (.ref a.aw) (.ref a.ak) (.ref D) (.ref a.ff))) = G at fr0 ob1 hw1 hk1 ht1 hf1 hD1
      have dm := ds_map dt decV (fun t => t - 1) (fun _ => rfl)
      generalize hkD : ((k2.filter fun kv => true).map fun kv => (kv.1, decV kv.2)) = kD at hD1 dm
      have lD := ds_len dm
      dsimp only [L2.tSeq, L2.tAsg, L2.tCB, L2.tCons, L2.tNil]
      refine lc_keys (s := 2) D kD (fun k => decide (valV kD k = some (.int 0))) (fun k => kV k) hD1 (by omega) (fun od => ei_fld rfl (by rw [upd_ne nDp.symm]; exact ob1) T.K_WorkQueue T.na_WorkQueue__ticks fl_WorkQueue__ticks) (fun _ => rfl) (fun od i k v G' Q' hk s q => ?_) (fun od i k v G' Q' hk s q => ?_) (fun L H2 hL s2 hl2 => ?_)
      · obtain ⟨z, x, rfl, hx, rfl, hv⟩ := ds_at dm hk
        refine ⟨_, rfl, a.p, _, dx, _, _, rfl, s _ _ (by rw [upd_ne nDp.symm]; exact ob1), T.K_WorkQueue, T.na_WorkQueue__ticks, fl_WorkQueue__ticks, _, rfl, D, .int x, rfl, ?_, rfl, _, rfl, ?_⟩
        · rw [← hv]
          exact .inl ⟨kD, _, .inr ⟨od, s _ _ upd_same⟩, rfl, rfl⟩
        · rw [hv] at q
          have : decide ((some (V.int x) : Option V) = some (V.int 0)) = decide (V.int x = V.int 0) := by rw [Bool.eq_iff_iff]; simp
          rw [this] at q
          exact q
      · exact ⟨_, rfl, q⟩
      · -- ended: sorted
        have eL : ((kD.filter fun kv => decide (valV kD kv.1 = some (V.int 0))).map fun kv => kV kv.1) = (((kD.filter fun kv => decide (valV kD kv.1 = some (V.int 0))).map fun kv => keyS kv.1)).map V.str := by
          rw [List.map_map]
          apply List.map_congr_left
          intro kv hm
          obtain ⟨z, _, e⟩ := dm.ks kv (List.mem_filter.mp hm).1
          show kV kv.1 = V.str (keyS kv.1)
          rw [e]
          rfl
        rw [eL] at hl2
        generalize hes : ((kD.filter fun kv => decide (valV kD kv.1 = some (V.int 0))).map fun kv => keyS kv.1) = es at hl2
        have esn : es.Nodup := by
          rw [← hes]
          exact (List.filter_sublist.map _).nodup (keys_nd dm)
        have esl : es.length ≤ 12 := by
          rw [← hes, List.length_map]
          have := List.length_filter_le (fun kv : Key × V => decide (valV kD kv.1 = some (V.int 0))) kD
          omega
        have esm : ∀ z, z ∈ es ↔ q.tk z = some 1 := fun z => by
          have hv := dm.vl z
          have e2 : z ∈ es ↔ valV kD (Sum.inr z) = some (V.int 0) := by
            rw [← hes]
            constructor
            · intro h
              obtain ⟨kv, hm, rfl⟩ := List.mem_map.mp h
              obtain ⟨h1, h2⟩ := List.mem_filter.mp hm
              obtain ⟨z, _, e⟩ := dm.ks kv h1
              rw [e] at h2 ⊢
              exact of_decide_eq_true h2
            · intro h
              have h3 := (key_iff dm z).mpr (by
                have : (valV kD (Sum.inr z)).isSome = true := by rw [h]; rfl
                rw [hv] at this
                cases e : (q.tk z).map (· - 1) with
                | none => rw [e] at this; cases this
                | some _ => rfl)
              obtain ⟨kv, hm, rfl⟩ := List.mem_map.mp h3
              refine List.mem_map.mpr ⟨kv, List.mem_filter.mpr ⟨hm, ?_⟩, rfl⟩
              obtain ⟨z', _, e⟩ := dm.ks kv hm
              rw [e] at h ⊢
              exact decide_eq_true h
          rw [e2, hv]
          cases q.tk z with
          | none => simp
          | some t =>
            show some (V.int (t - 1)) = some (V.int 0) ↔ some t = some 1
            simp only [Option.some.injEq, V.int.injEq]
            omega
        refine ⟨L, es, rfl, sql hl2, by omega, fun ys B hp srt hB => ?_⟩
        have s3 := s2.trans (same_upd (o := .lst (ys.map V.str)) hB)
        have ysn : ys.Nodup := hp.nodup_iff.mpr esn
        have ysm : ∀ z, z ∈ ys ↔ q.tk z = some 1 := fun z => by rw [hp.mem_iff, esm]
        have ysl : ys.length ≤ 12 := by rw [hp.length_eq]; exact esl
        have hB1 : upd H2 B (.lst (ys.map V.str)) B = some (.lst (ys.map V.str)) := upd_same
        have hBG : G B = none := s2.free hB
        have hBH : H B = none := by
          cases e : H B with
          | none => rfl
          | some o =>
            exfalso
            by_cases hm : B ∈ a.all
            · have : B = a.p ∨ B = a.aw ∨ B = a.ak ∨ B = a.tt ∨ B = a.ff := by simpa [WP.all] using hm
              rcases this with rfl | rfl | rfl | rfl | rfl
              · rw [ob1] at hBG; cases hBG
              · rw [hw1] at hBG; cases hBG
              · rw [hk1] at hBG; cases hBG
              · rw [ht1] at hBG; cases hBG
              · rw [hf1] at hBG; cases hBG
            · rw [fr0 B o e hm] at hBG
              cases hBG
        generalize hG1 : upd H2 B (.lst (ys.map V.str)) = G1 at s3 hB1
        have nB : B ∉ ({ a with tt := D } : WP).all := fun hm => by
          have : B = a.p ∨ B = a.aw ∨ B = a.ak ∨ B = D ∨ B = a.ff := by simpa [WP.all] using hm
          rcases this with rfl | rfl | rfl | rfl | rfl
          · rw [ob1] at hBG; cases hBG
          · rw [hw1] at hBG; cases hBG
          · rw [hk1] at hBG; cases hBG
          · rw [hD1] at hBG; cases hBG
          · rw [hf1] at hBG; cases hBG
        have hU : ∀ y ∈ ys, y ∈ U := fun y hy => keys_in dt y ((key_iff dt y).mpr (by rw [(ysm y).mp hy]; rfl))
        have hW0 : WQAt U T.a_WorkQueue G1 most { a with tt := D } { q with tk := decF q.tk } :=
          ⟨⟨dx, s3 _ _ ob1⟩, s3 _ _ hw1, ⟨k1, s3 _ _ hk1, dk⟩, ⟨kD, s3 _ _ hD1, dm⟩, ⟨k3, s3 _ _ hf1, df⟩, nDk.symm, hkf, nDf, wU, wn, u12⟩
        refine ⟨_, rfl, B, rfl, ⟨_, sql hB1⟩, for_list (K := K) (a := B) (xs := ys.map V.str) (fun i σ G2 => ∃ v2, σ = [some (.ref a.p), some (.ref B), v2] ∧ WQAt U T.a_WorkQueue G2 most { a with tt := D } ((ys.take i).foldl WQ.step { q with tk := decF q.tk }) ∧ Fr ({ a with tt := D } : WP).all G1 G2)
          ⟨none, rfl, hW0, Fr.refl _ _⟩ (fun i σ G2 _ ⟨_, _, _, f⟩ => sql (f _ _ hB1 nB)) ?_ ?_⟩
        · rintro i x σ G2 hx ⟨v2, rfl, hW, fr⟩
          obtain ⟨y, hy, rfl⟩ := map_at hx
          have hym := List.mem_of_getElem? hy
          have hyn : y ∉ ys.take i := fun hm => by
            obtain ⟨j, hj, e⟩ := List.getElem_of_mem hm
            rw [List.length_take] at hj
            rw [List.getElem_take] at e
            obtain ⟨hi, e2⟩ := List.getElem?_eq_some_iff.mp hy
            have := (List.getElem_inj ysn).mp (e.trans e2.symm)
            omega
          have hstep := take_more hy
          have htk : ((ys.take i).foldl WQ.step { q with tk := decF q.tk }).tk y = some 0 := by
            rw [fold_tk, if_neg hyn]
            show (q.tk y).map (· - 1) = some 0
            rw [(ysm y).mp hym]
            rfl
          generalize hq' : (ys.take i).foldl WQ.step { q with tk := decF q.tk } = q' at hW htk
          have ap' := hW.apart
          obtain ⟨⟨dx', ob'⟩, hw', ⟨k1', hk', dk'⟩, ⟨k2', ht', dt'⟩, ⟨k3', hf', df'⟩, hkt', hkf', htf', wU', wn', u12'⟩ := hW
          have hv' : valV k2' (Sum.inr y) = some (.int 0) := by rw [dt'.vl y, htk]; rfl
          refine ⟨_, rfl, a.p, _, dx', _, _, rfl, ob', T.K_WorkQueue, T.na_WorkQueue__ticks, fl_WorkQueue__ticks, _, rfl, D, k2', Sum.inr y, rfl, ht', rfl, by rw [hv']; rfl, ?_⟩
          have ob2 : (upd G2 D (.dK (dropK k2' (Sum.inr y)))) a.p = some (.ins T.a_WorkQueue dx' (fl_WorkQueue (.int most) (.ref a.aw) (.ref a.ak) (.ref D) (.ref a.ff))) := by rw [upd_ne nDp.symm]; exact ob'
          refine ⟨_, rfl, a.p, dx', _, rfl, ob2, fl_WorkQueue_no_add, _, rfl, U, { a with tt := D }, most, { q' with tk := unsF q'.tk y }, y, rfl, ?_, hU y hym, fun H3 hW3 fr3 => ?_⟩
          · exact ⟨⟨dx', ob2⟩, by rw [upd_ne nDw.symm]; exact hw', ⟨k1', by rw [upd_ne nDk.symm]; exact hk', dk'⟩, ⟨_, upd_same, ds_drop dt' y⟩, ⟨k3', by rw [upd_ne nDf.symm]; exact hf', df'⟩, hkt', hkf', htf', wU', wn', u12'⟩
          · refine ⟨_, rfl, ?_, (fr.up (by simp [WP.all])).trans fr3⟩
            rw [hstep, List.foldl_append, hq']
            exact hW3
        · rintro σ G2 ⟨v2, rfl, hW, fr⟩
          rw [List.length_map, List.take_length] at hW
          refine c ys D G2 ⟨ysn, srt, fun z => by rw [ysm z]; simp⟩ hD hW fun x o hx hm => ?_
          refine fr x o (s3 _ _ (fr0 x o hx hm)) fun hm2 => hm ?_
          have : x = a.p ∨ x = a.aw ∨ x = a.ak ∨ x = D ∨ x = a.ff := by simpa [WP.all] using hm2
          rcases this with rfl | rfl | rfl | rfl | rfl
          · simp [WP.all]
          · simp [WP.all]
          · simp [WP.all]
          · rw [hx] at hD; cases hD
          · simp [WP.all]
theorem ok_WorkQueue_delayed (T : TX K mg) : FnOk P w K mg base CX0 1 T.a_WorkQueue_delayed T.d_WorkQueue_delayed ["self"] (sp_wqdelayed K T.a_WorkQueue) := by
  refine T.F_WorkQueue_delayed.ok sc_WorkQueue_delayed (fun vs H Q E h => ?_) (fun cdv A outer s H vs Q E hr h => ?_)
  · obtain ⟨U, a, most, q, rfl, _⟩ := h
    rfl
  · obtain ⟨U, a, most, q, rfl, hW, c⟩ := h
    refine ⟨_, (pss_one (ps_ret (pe_lc (own := [("key", 1)]) (g := gName 1) (tt := tYes) (by rfl) sc_WorkQueue_delayed.nd (pi_list (pe_callB (call_sortedD rfl) (by rfl) T.n_sorted (by decide +kernel) (pa_cons (pe_fld (pv 0) rfl) pa_nil))) (blkOk_by (own := [("key", 1)]) (N := ["self", "key"]) (sc := defScope s_WorkQueue_delayed) (by decide +kernel)) (fun _ _ _ _ _ => pg_name (i := 1) sc_WorkQueue_delayed.nd rfl (Or.inl rfl)) (fun _ _ _ _ _ => pts_nil) (fun _ _ _ _ _ => (pe_tup (pa_cons (pv 1) (pa_cons (pe_dget (hu_of hr) (pe_fldK (K := K) rfl (pv 0) rfl) (pv 1) (fun _ _ => rfl)) pa_nil))))))), ?_⟩
    obtain ⟨dx, ob⟩ := hW.ob
    obtain ⟨k2, ht, dt⟩ := hW.ht
    have u12 := hW.U12
    have l2 := ds_len dt
    refine ⟨_, rfl, a.p, _, dx, _, _, rfl, ob, T.K_WorkQueue, T.na_WorkQueue__ticks, fl_WorkQueue__ticks, a.tt, k2, _, rfl, .inl ht, keys_map dt, by rw [List.length_map]; omega, fun ys B hp srt hB => ?_⟩
    have ysm : ∀ z, z ∈ ys ↔ (q.tk z).isSome = true := fun z => by rw [hp.mem_iff, key_iff dt]
    have ysl : ys.length ≤ 12 := by rw [hp.length_eq, List.length_map]; omega
    have s1 := same_upd (o := .lst (ys.map V.str)) hB
    have hB1 : upd H B (.lst (ys.map V.str)) B = some (.lst (ys.map V.str)) := upd_same
    generalize upd H B (.lst (ys.map V.str)) = G at s1 hB1
    refine ⟨B, rfl, ⟨_, sql hB1⟩, fun D hD => ?_⟩
    refine lc_list (K := K) (a := B) (xs := ys.map V.str) (fun i H' => ∃ Gx xs, Same G Gx ∧ Same Gx H' ∧ Gx D = none ∧ H' D = some (.lst xs) ∧ DpAll K Gx xs ((ys.take i).map fun s => .tuple [.str s, .int ((q.tk s).getD 0)])) ⟨G, [], Same.refl _, same_upd hD, hD, upd_same, .nil⟩ (fun i H' _ ⟨Gx, xs, h1, h2, _⟩ => sql ((h1.trans h2) _ _ hB1)) (fun i x G' hx ⟨Gx, xs, sa, sb, hDx, hxs, hd⟩ => ?_) (fun G' ⟨Gx, xs, sa, sb, hDx, hxs, hd⟩ => ?_)
    · obtain ⟨y, hy, rfl⟩ := map_at hx
      have s2 := sa.trans sb
      have hym := (ysm y).mp (List.mem_of_getElem? hy)
      obtain ⟨t, ht2⟩ := Option.isSome_iff_exists.mp hym
      have hv : valV k2 (Sum.inr y) = some (.int t) := by rw [dt.vl y, ht2]; rfl
      have hlx : xs.length ≤ 12 := by have := dpa_len hd; rw [List.length_map, List.length_take] at this; omega
      refine ⟨rfl, _, rfl, _, rfl, a.p, _, dx, _, _, rfl, s2 _ _ (s1 _ _ ob), T.K_WorkQueue, T.na_WorkQueue__ticks, fl_WorkQueue__ticks, _, rfl, a.tt, .int t, rfl, by rw [← hv]; exact DGet.k (k := Sum.inr y) (s2 _ _ (s1 _ _ ht)), (by show 2 ≤ sizeLine; decide), fun t1 ht1 => ?_⟩
      have s3 := same_upd (o := .tup [.str y, .int t]) ht1
      have nt : t1 ≠ D := fun z => by rw [z, hxs] at ht1; cases ht1
      have hx1 : Gx t1 = none := sb.free ht1
      have s4 := same_upd (o := .tup [.str y, .int t]) hx1
      have hD4 : upd Gx t1 (.tup [.str y, .int t]) D = none := by rw [upd_ne nt.symm]; exact hDx
      refine ⟨xs, s3 _ _ hxs, szl (by omega), upd Gx t1 (.tup [.str y, .int t]), xs ++ [.ref t1], sa.trans s4, same_put (same_both sb) hD4, hD4, upd_same, ?_⟩
      rw [take_more hy, List.map_append]
      refine dpa_app (dpa_same s4 _ hd) (.cons (.tup (sqt upd_same) (.cons (.str _) (.cons ?_ .nil))) .nil)
      rw [ht2]
      exact .int t
    · rw [List.length_map, List.take_length] at hd
      refine c ys D G' xs ⟨hp.nodup_iff.mpr (keys_nd dt), srt, ysm⟩ (s1.free hD) (s1.trans (sa.trans sb)) hxs (dpa_same sb _ hd)
end
/-! what holds of a queue, of the keys in work and of what is owed -/
def owe (od : List Str) (k : Str) : List Str := if k ∈ od then od else od ++ [k]
structure Inv45 (q : WQ) (wk od : List Str) : Prop where
  a1 : ∀ x ∈ q.w, q.wk x = none ∧ q.tk x = none
  a2 : ∀ x t, q.tk x = some t → 1 ≤ t ∧ t ≤ 64
  a3 : ∀ x, x ∈ wk ↔ (q.wk x).isSome = true
  n3 : wk.Nodup
  a4 : ∀ x, x ∈ od ↔ x ∈ q.w ∨ q.wk x = some true ∨ (q.tk x).isSome = true
  n4 : od.Nodup
  a5 : ∀ x n, q.fl x = some n → 1 ≤ n
theorem owe_mem {od : List Str} {k x : Str} : x ∈ owe od k ↔ x = k ∨ x ∈ od := by
  unfold owe
  split
  · next h => exact ⟨.inr, fun g => g.elim (fun e => by rw [e]; exact h) id⟩
  · rw [List.mem_append, List.mem_singleton]
    exact Or.comm
theorem owe_nd {od : List Str} {k : Str} (h : od.Nodup) : (owe od k).Nodup := by
  unfold owe
  split
  · exact h
  · next hn => exact List.nodup_append.mpr ⟨h, by simp, fun x hx y hy z => hn (by rw [List.mem_singleton] at hy; rw [← hy, ← z]; exact hx)⟩
theorem setF_same {α : Type} (f : Str → Option α) (k : Str) (v : α) : setF f k v k = some v := if_pos rfl
theorem setF_ne {α : Type} {f : Str → Option α} {k x : Str} {v : α} (h : x ≠ k) : setF f k v x = f x := if_neg h
theorem unsF_same {α : Type} (f : Str → Option α) (k : Str) : unsF f k k = none := if_pos rfl
theorem unsF_ne {α : Type} {f : Str → Option α} {k x : Str} (h : x ≠ k) : unsF f k x = f x := if_neg h
section
variable {q : WQ} {wk od : List Str} {k : Str}
/-- od' is od with k -/
theorem inv_add (h : Inv45 q wk od) {od' : List Str} (m : ∀ x, x ∈ od' ↔ x = k ∨ x ∈ od) (nd : od'.Nodup) : Inv45 (q.add k) wk od' := by
  unfold WQ.add
  split
  · next hk =>
    refine ⟨fun x hx => ?_, h.a2, fun x => ?_, h.n3, fun x => ?_, nd, h.a5⟩
    · have := h.a1 x hx
      refine ⟨?_, this.2⟩
      by_cases e : x = k
      · rw [e] at this; rw [this.1] at hk; cases hk
      · exact (setF_ne e).trans this.1
    · rw [h.a3]
      by_cases e : x = k
      · subst e; show _ ↔ (setF q.wk x true x).isSome = true; rw [setF_same]; simp [hk]
      · show _ ↔ (setF q.wk k true x).isSome = true; rw [setF_ne e]
    · rw [m, h.a4]
      show _ ↔ x ∈ q.w ∨ setF q.wk k true x = some true ∨ (q.tk x).isSome = true
      by_cases e : x = k
      · subst e; rw [setF_same]; simp
      · rw [setF_ne e]; simp [e]
  · next hk =>
    have hk0 : q.wk k = none := by cases e : q.wk k with | none => rfl | some _ => rw [e] at hk; simp at hk
    split
    · next hw =>
      refine ⟨h.a1, h.a2, h.a3, h.n3, fun x => ?_, nd, h.a5⟩
      rw [m, h.a4]
      by_cases e : x = k
      · subst e; simp [hw]
      · simp [e]
    · next hw =>
      refine ⟨fun x hx => ?_, fun x t ht => ?_, h.a3, h.n3, fun x => ?_, nd, h.a5⟩
      · rcases List.mem_append.mp hx with hx | hx
        · have := h.a1 x hx
          have e : x ≠ k := fun z => hw (by rw [← z]; exact hx)
          exact ⟨this.1, (unsF_ne e).trans this.2⟩
        · rw [List.mem_singleton] at hx
          subst hx
          exact ⟨hk0, unsF_same _ _⟩
      · have ht' : unsF q.tk k x = some t := ht
        by_cases e : x = k
        · subst e; rw [unsF_same] at ht'; cases ht'
        · rw [unsF_ne e] at ht'; exact h.a2 x t ht'
      · rw [m, h.a4]
        show _ ↔ x ∈ q.w ++ [k] ∨ q.wk x = some true ∨ (unsF q.tk k x).isSome = true
        rw [List.mem_append, List.mem_singleton]
        by_cases e : x = k
        · subst e; simp
        · rw [unsF_ne e]; simp [e]
theorem inv_owe (h : Inv45 q wk od) : Inv45 (q.add k) wk (owe od k) := inv_add h (fun _ => owe_mem) (owe_nd h.n4)
theorem inv_late (h : Inv45 q wk od) {t : Int} (h0 : 0 ≤ t) (h1 : t ≤ 64) : Inv45 (q.later k t) wk (owe od k) := by
  unfold WQ.later
  split
  · exact inv_owe h
  · next ht =>
    split
    · next hw =>
      refine ⟨h.a1, h.a2, h.a3, h.n3, fun x => ?_, owe_nd h.n4, h.a5⟩
      rw [owe_mem, h.a4]
      by_cases e : x = k
      · subst e; simp [hw]
      · simp [e]
    · next hw =>
      refine ⟨fun x hx => ?_, fun x u hu => ?_, h.a3, h.n3, fun x => ?_, owe_nd h.n4, h.a5⟩
      · have := h.a1 x hx
        have e : x ≠ k := fun z => hw (by rw [← z]; exact hx)
        exact ⟨this.1, (setF_ne e).trans this.2⟩
      · by_cases e : x = k
        · subst e
          have hu' : setF q.tk x (if (q.tk x).getD t < t then (q.tk x).getD t else t) x = some u := hu
          rw [setF_same] at hu'
          have hu2 := Option.some.inj hu'
          cases e2 : q.tk x with
          | none => rw [e2] at hu2; simp only [Option.getD_none] at hu2; split at hu2 <;> omega
          | some t2 =>
            have := h.a2 x t2 e2
            rw [e2] at hu2
            simp only [Option.getD_some] at hu2
            split at hu2 <;> omega
        · have hu' : setF q.tk k (if (q.tk k).getD t < t then (q.tk k).getD t else t) x = some u := hu
          rw [setF_ne e] at hu'
          exact h.a2 x u hu'
      · rw [owe_mem, h.a4]
        show _ ↔ x ∈ q.w ∨ q.wk x = some true ∨ (setF q.tk k _ x).isSome = true
        by_cases e : x = k
        · subst e; rw [setF_same]; simp
        · rw [setF_ne e]; simp [e]
theorem inv_take (h : Inv45 q wk od) {r : List Str} (e : q.w = k :: r) (nw : q.w.Nodup) : k ∉ wk ∧ k ∈ od ∧ Inv45 { q with w := r, wk := setF q.wk k false } (wk ++ [k]) (od.erase k) := by
  have hk := h.a1 k (by rw [e]; exact List.mem_cons_self)
  have hkw : k ∉ wk := fun z => by have := (h.a3 k).mp z; rw [hk.1] at this; cases this
  rw [e] at nw
  have nr := List.nodup_cons.mp nw
  refine ⟨hkw, (h.a4 k).mpr (.inl (by rw [e]; exact List.mem_cons_self)), fun x hx => ?_, h.a2, fun x => ?_, ?_, fun x => ?_, h.n4.erase k, h.a5⟩
  · have hx' : x ∈ r := hx
    have := h.a1 x (by rw [e]; exact List.mem_cons_of_mem _ hx')
    have ne : x ≠ k := fun z => nr.1 (by rw [← z]; exact hx')
    exact ⟨(setF_ne ne).trans this.1, this.2⟩
  · show _ ↔ (setF q.wk k false x).isSome = true
    rw [List.mem_append, List.mem_singleton, h.a3]
    by_cases ne : x = k
    · subst ne; rw [setF_same]; simp
    · rw [setF_ne ne]; simp [ne]
  · exact List.nodup_append.mpr ⟨h.n3, by simp, fun x hx y hy z => hkw (by rw [List.mem_singleton] at hy; rw [← hy, ← z]; exact hx)⟩
  · rw [h.n4.mem_erase_iff, h.a4]
    show _ ↔ x ∈ r ∨ setF q.wk k false x = some true ∨ (q.tk x).isSome = true
    by_cases ne : x = k
    · subst ne
      rw [setF_same, hk.2]
      simp [nr.1]
    · rw [setF_ne ne, e]; simp [ne]
/-- k leaves work: wk' is wk without it -/
theorem inv_left (h : Inv45 q wk od) {b : Bool} (hk : q.wk k = some b) {wk' : List Str} (m : ∀ x, x ∈ wk' ↔ x ∈ wk ∧ x ≠ k) (nd : wk'.Nodup) {fl' : Str → Option Int} (hf : ∀ x n, fl' x = some n → 1 ≤ n) {od' : List Str}
    (mo : ∀ x, x ∈ od' ↔ x ∈ od ∧ ¬ (x = k ∧ b = true ∧ (q.tk k) = none)) (no : od'.Nodup) : Inv45 { q.left k with fl := fl' } wk' od' := by
  refine ⟨fun x hx => ?_, h.a2, fun x => ?_, nd, fun x => ?_, no, hf⟩
  · have := h.a1 x hx
    refine ⟨?_, this.2⟩
    show unsF q.wk k x = none
    by_cases e : x = k
    · rw [e, unsF_same]
    · rw [unsF_ne e]; exact this.1
  · rw [m, h.a3]
    show _ ↔ (unsF q.wk k x).isSome = true
    by_cases e : x = k
    · subst e; rw [unsF_same]; simp
    · rw [unsF_ne e]; simp [e]
  · rw [mo, h.a4]
    show _ ↔ x ∈ q.w ∨ unsF q.wk k x = some true ∨ (q.tk x).isSome = true
    by_cases e : x = k
    · subst e
      have hw : x ∉ q.w := fun z => by have := (h.a1 x z).1; rw [hk] at this; cases this
      rw [unsF_same, hk]
      cases b <;> cases q.tk x <;> simp [hw]
    · rw [unsF_ne e]; simp [e]
theorem inv_fin (h : Inv45 q wk od) {b : Bool} (hk : q.wk k = some b) {wk' : List Str} (m : ∀ x, x ∈ wk' ↔ x ∈ wk ∧ x ≠ k) (nd : wk'.Nodup) : Inv45 (q.fin k) wk' od := by
  have hf : ∀ x n, unsF q.fl k x = some n → 1 ≤ n := fun x n hn => by
    by_cases e : x = k
    · rw [e, unsF_same] at hn; cases hn
    · rw [unsF_ne e] at hn; exact h.a5 x n hn
  unfold WQ.fin
  cases b with
  | true =>
    rw [if_pos hk]
    have hk4 : k ∈ od := (h.a4 k).mpr (.inr (.inl hk))
    by_cases ht : q.tk k = none
    · have h1 := inv_left h hk m nd hf (od' := od.erase k) (fun x => by
        rw [h.n4.mem_erase_iff]; simp [ht]; exact And.comm) (h.n4.erase k)
      refine inv_add h1 (fun x => ?_) h.n4
      rw [h.n4.mem_erase_iff]
      by_cases e : x = k
      · subst e; simp [hk4]
      · simp [e]
    · have h1 := inv_left h hk m nd hf (od' := od) (fun x => by simp [ht]) h.n4
      refine inv_add h1 (fun x => ?_) h.n4
      exact ⟨.inr, fun g => g.elim (fun e => by rw [e]; exact hk4) id⟩
  | false =>
    rw [if_neg (by rw [hk]; simp)]
    exact inv_left h hk m nd hf (fun x => by simp) h.n4
theorem delay_bd {most n : Int} (h1 : 1 ≤ most) : 1 ≤ delayZ most n ∧ delayZ most n ≤ most := by
  unfold delayZ
  have : (0 : Int) < 2 ^ (n - 1).toNat := Int.pow_pos (by decide)
  split <;> omega
theorem inv_bad (h : Inv45 q wk od) {b : Bool} (hk : q.wk k = some b) {wk' : List Str} (m : ∀ x, x ∈ wk' ↔ x ∈ wk ∧ x ≠ k) (nd : wk'.Nodup) {most : Int} (m1 : 1 ≤ most) (m2 : most ≤ 64) : Inv45 (q.bad most k) wk' (owe od k) := by
  have h0 : 0 ≤ (q.fl k).getD 0 := by
    cases e : q.fl k with
    | none => exact Int.le_refl _
    | some n => have := h.a5 k n e; simp only [Option.getD_some]; omega
  have hf : ∀ x n, setF q.fl k ((q.fl k).getD 0 + 1) x = some n → 1 ≤ n := fun x n hn => by
    by_cases e : x = k
    · subst e; rw [setF_same] at hn; have := Option.some.inj hn; omega
    · rw [setF_ne e] at hn; exact h.a5 x n hn
  have fin : ∀ od', Inv45 { q.left k with fl := setF q.fl k ((q.fl k).getD 0 + 1) } wk' od' → (∀ x, x ∈ owe od k ↔ x = k ∨ x ∈ od') → Inv45 (q.bad most k) wk' (owe od k) := fun od' h1 hm => by
    unfold WQ.bad
    split
    · exact inv_add h1 hm (owe_nd h.n4)
    · have db := delay_bd (n := (q.fl k).getD 0 + 1) m1
      have := inv_late (k := k) h1 (t := delayZ most ((q.fl k).getD 0 + 1)) (by omega) (by omega)
      refine ⟨this.a1, this.a2, this.a3, this.n3, fun x => ?_, owe_nd h.n4, this.a5⟩
      rw [hm, ← owe_mem]
      exact this.a4 x
  by_cases hc : b = true ∧ q.tk k = none
  · refine fin (od.erase k) (inv_left h hk m nd hf (fun x => by rw [h.n4.mem_erase_iff]; simp [hc]; exact And.comm) (h.n4.erase k)) fun x => ?_
    rw [owe_mem, h.n4.mem_erase_iff]
    by_cases e : x = k <;> simp [e]
  · exact fin od (inv_left h hk m nd hf (fun x => ⟨fun g => ⟨g, fun z => hc z.2⟩, fun g => g.1⟩) h.n4) fun x => owe_mem
/-- one delayed key whose time is over -/
theorem inv_step (h : Inv45 q wk od) : ∀ (ys : List Str) (q' : WQ), ys.Nodup → (∀ y ∈ ys, q'.tk y = some 0) → (∀ x ∈ q'.w, q'.wk x = none ∧ q'.tk x = none) → (∀ x t, q'.tk x = some t → x ∉ ys → 1 ≤ t ∧ t ≤ 63) →
    (∀ x, x ∈ wk ↔ (q'.wk x).isSome = true) → (∀ x, x ∈ od ↔ x ∈ q'.w ∨ q'.wk x = some true ∨ (q'.tk x).isSome = true) → (∀ x n, q'.fl x = some n → 1 ≤ n) →
    Inv45 (ys.foldl WQ.step q') wk od
  | [], q', _, _, h1, h2, h3, h4, h5 => ⟨h1, fun x t ht => by have := h2 x t ht (by simp); omega, h3, h.n3, h4, h.n4, h5⟩
  | y :: ys, q', nd, hy, h1, h2, h3, h4, h5 => by
    have n2 := List.nodup_cons.mp nd
    have hy0 := hy y List.mem_cons_self
    have hyo : y ∈ od := (h4 y).mpr (.inr (.inr (by rw [hy0]; rfl)))
    have hyw : y ∉ q'.w := fun z => by have := (h1 y z).2; rw [hy0] at this; cases this
    have nek : ∀ x ∈ ys, x ≠ y := fun x hx z => n2.1 (by rw [← z]; exact hx)
    rw [List.foldl_cons]
    have stk := step_tk q' y
    refine inv_step h ys (q'.step y) n2.2 (fun x hx => by rw [stk, unsF_ne (nek x hx)]; exact hy x (List.mem_cons_of_mem _ hx)) ?_ ?_ ?_ ?_ ?_
    · intro x hx
      unfold WQ.step WQ.add at hx ⊢
      dsimp only at hx ⊢
      split
      · next hs =>
        rw [if_pos hs] at hx
        have hx' : x ∈ q'.w := hx
        have := h1 x hx'
        have e : x ≠ y := fun z => hyw (by rw [← z]; exact hx')
        exact ⟨(setF_ne e).trans this.1, (unsF_ne e).trans this.2⟩
      · next hs =>
        rw [if_neg hs, if_neg hyw] at hx
        try rw [if_neg hyw]
        have hk0 : q'.wk y = none := by cases e : q'.wk y with | none => rfl | some _ => rw [e] at hs; simp at hs
        have hx' : x ∈ q'.w ++ [y] := hx
        rcases List.mem_append.mp hx' with hx2 | hx2
        · have := h1 x hx2
          have e : x ≠ y := fun z => hyw (by rw [← z]; exact hx2)
          exact ⟨this.1, (unsF_ne e).trans ((unsF_ne e).trans this.2)⟩
        · rw [List.mem_singleton] at hx2
          subst hx2
          exact ⟨hk0, unsF_same _ _⟩
    · intro x t ht hx
      rw [stk] at ht
      by_cases e : x = y
      · rw [e, unsF_same] at ht; cases ht
      · rw [unsF_ne e] at ht
        exact h2 x t ht (by simp [e, hx])
    · intro x
      rw [h3]
      unfold WQ.step WQ.add
      dsimp only
      split
      · next hs =>
        show _ ↔ (setF q'.wk y true x).isSome = true
        by_cases e : x = y
        · subst e; rw [setF_same]; simp [hs]
        · rw [setF_ne e]
      · exact Iff.rfl
    · intro x
      rw [h4, stk]
      unfold WQ.step WQ.add
      dsimp only
      split
      · next hs =>
        show _ ↔ x ∈ q'.w ∨ setF q'.wk y true x = some true ∨ _
        by_cases e : x = y
        · subst e; rw [setF_same, hy0]; simp
        · rw [setF_ne e, unsF_ne e]
      · try rw [if_neg hyw]
        show _ ↔ x ∈ q'.w ++ [y] ∨ q'.wk x = some true ∨ _
        rw [List.mem_append, List.mem_singleton]
        by_cases e : x = y
        · subst e; rw [hy0]; simp
        · rw [unsF_ne e]; simp [e]
    · intro x n hn
      refine h5 x n ?_
      unfold WQ.step WQ.add at hn
      dsimp only at hn
      split at hn
      · exact hn
      · try rw [if_neg hyw] at hn
        exact hn
theorem inv_pass (h : Inv45 q wk od) {ys : List Str} (hy : Ord (fun s => decide (q.tk s = some 1)) ys) : Inv45 (q.pass ys) wk od := by
  refine inv_step h ys { q with tk := decF q.tk } hy.1 (fun y hm => ?_) (fun x hx => ?_) (fun x t ht hn => ?_) h.a3 (fun x => ?_) h.a5
  · have := of_decide_eq_true ((hy.2.2 y).mp hm)
    show (q.tk y).map (· - 1) = some 0
    rw [this]; rfl
  · have := h.a1 x hx
    refine ⟨this.1, ?_⟩
    show (q.tk x).map (· - 1) = none
    rw [this.2]; rfl
  · have ht' : (q.tk x).map (· - 1) = some t := ht
    cases e : q.tk x with
    | none => rw [e] at ht'; cases ht'
    | some u =>
      rw [e] at ht'
      have h1 : u - 1 = t := Option.some.inj ht'
      have h2 := h.a2 x u e
      have h3 : u ≠ 1 := fun z => hn ((hy.2.2 x).mpr (decide_eq_true (by rw [e, z])))
      omega
  · rw [h.a4]
    show _ ↔ x ∈ q.w ∨ q.wk x = some true ∨ ((q.tk x).map (· - 1)).isSome = true
    cases q.tk x <;> simp
theorem pass_tk (q : WQ) (ys : List Str) (s : Str) : (q.pass ys).tk s = if s ∈ ys then none else (q.tk s).map (· - 1) := fold_tk ys _ s
end
def sp_wqleave (C : Addr) : Sp := fun vs H Q _ => ∃ (U : List Str) (a : WP) (most : Int) (q : WQ) (k : Str) (b : Bool), vs = [.ref a.p, .str k] ∧ WQAt U C H most a q ∧ q.wk k = some b ∧ ∀ H', WQAt U C H' most a (q.left k) → Fr a.all H H' → Q (.bl b) H'
def sp_wqfin (C : Addr) : Sp := fun vs H Q _ => ∃ (U : List Str) (a : WP) (most : Int) (q : WQ) (k : Str) (b : Bool), vs = [.ref a.p, .str k] ∧ WQAt U C H most a q ∧ q.wk k = some b ∧ ∀ H', WQAt U C H' most a (q.fin k) → Fr a.all H H' → Q .non H'
def sp_wqbad (C : Addr) : Sp := fun vs H Q _ => ∃ (U : List Str) (a : WP) (most : Int) (q : WQ) (k : Str) (b : Bool), vs = [.ref a.p, .str k] ∧ WQAt U C H most a q ∧ q.wk k = some b ∧ (∀ x n, q.fl x = some n → 1 ≤ n) ∧ 1 ≤ most ∧ most ≤ 64 ∧ ∀ H', WQAt U C H' most a (q.bad most k) → Fr a.all H H' → Q .non H'
theorem wk_in {U : List Str} {C : Addr} {H : Hp} {most : Int} {a : WP} {q : WQ} (h : WQAt U C H most a q) {k : Str} (hk : (q.wk k).isSome = true) : k ∈ U := by
  obtain ⟨k1, _, dk⟩ := h.hk
  exact keys_in dk k ((key_iff dk k).mpr hk)
section
variable {P : Program} {w : World} {K : PySem.W.Frag} {mg : Str → Option Value} {base : Heap}
theorem ok_WorkQueue__leave (T : TX K mg) : FnOk P w K mg base CX0 1 T.a_WorkQueue__leave T.d_WorkQueue__leave ["self", "key"] (sp_wqleave T.a_WorkQueue) := by
  refine T.F_WorkQueue__leave.ok sc_WorkQueue__leave (fun vs H Q E h => ?_) (fun cdv A outer s H vs Q E hr h => ?_)
  · obtain ⟨U, a, most, q, k, b, rfl, _⟩ := h
    rfl
  · obtain ⟨U, a, most, q, k, b, rfl, hW, hb, c⟩ := h
    refine ⟨_, (pss_cons (ps_if (pt_cmp (pc_dnotin (hu_of hr) (pv 1) (pe_fld (pv 0) rfl))) (pss_one ps_never) pss_nil)
      (pss_one (ps_ret (pe_dpop1 (pe_fld (pv 0) rfl) (pv 1) ⟨rfl, rfl, rfl, rfl⟩)))), ?_⟩
    have ap := hW.apart
    obtain ⟨⟨dx, ob⟩, hw, ⟨k1, hk, dk⟩, ⟨k2, ht, dt⟩, ⟨k3, hf, df⟩, hkt, hkf, htf, wU, wn, u12⟩ := hW
    have hv : valV k1 (Sum.inr k) = some (.bl b) := by rw [dk.vl k, hb]; rfl
    refine ⟨_, rfl, _, rfl, a.p, _, dx, _, _, rfl, ob, T.K_WorkQueue, T.na_WorkQueue__working, fl_WorkQueue__working, a.ak, _, rfl, DGet.k (k := Sum.inr k) hk, _, rfl, ifbf (by rw [hv]; rfl) ?_⟩
    refine ⟨_, rfl, a.p, _, dx, _, _, rfl, ob, T.K_WorkQueue, T.na_WorkQueue__working, fl_WorkQueue__working, a.ak, rfl, .inl ⟨_, .inl hk⟩, _, rfl, k1, Sum.inr k, _, hk, rfl, hv, ?_⟩
    exact c _ ⟨⟨dx, by rw [upd_ne ap.pk]; exact ob⟩, by rw [upd_ne ap.wk]; exact hw, ⟨_, upd_same, ds_drop dk k⟩, ⟨_, by rw [upd_ne hkt.symm]; exact ht, dt⟩, ⟨_, by rw [upd_ne hkf.symm]; exact hf, df⟩, hkt, hkf, htf, wU, wn, u12⟩ ((Fr.refl _ _).up (by simp [WP.all]))
theorem ok_WorkQueue_finish (T : TX K mg) : FnOk P w K mg base CX0 2 T.a_WorkQueue_finish T.d_WorkQueue_finish ["self", "key"] (sp_wqfin T.a_WorkQueue) := by
  refine T.F_WorkQueue_finish.ok sc_WorkQueue_finish (fun vs H Q E h => ?_) (fun cdv A outer s H vs Q E hr h => ?_)
  · obtain ⟨U, a, most, q, k, b, rfl, _⟩ := h
    rfl
  · obtain ⟨U, a, most, q, k, b, rfl, hW, hb, c⟩ := h
    refine ⟨_, (pss_cons (ps_set (i := 2) sc_WorkQueue_finish.nd rfl (Or.inl rfl) (pe_meth (pv 0) T.K_WorkQueue T.m_WorkQueue__leave (ok_WorkQueue__leave T) (hr.mono (by decide)) T.b_WorkQueue__leave .nil pass0 (pa_cons (pv 1) pa_nil)))
      (pss_cons (ps_expr (pe_dpop2 (pe_fld (pv 0) rfl) (pv 1) pe_non ⟨rfl, rfl, rfl, rfl⟩))
      (pss_one (ps_if (pt_truth (pv 2) (by intro _; rfl)) (pss_one (ps_expr (pe_meth (pv 0) T.K_WorkQueue T.m_WorkQueue_add (ok_WorkQueue_add T) (hr.mono (by decide)) T.b_WorkQueue_add .nil pass0 (pa_cons (pv 1) pa_nil)))) pss_nil)))), ?_⟩
    obtain ⟨dx, ob⟩ := hW.ob
    have hU := wk_in hW (k := k) (by rw [hb]; rfl)
    refine ⟨_, rfl, a.p, dx, _, rfl, ob, fl_WorkQueue_no__leave, _, rfl, U, a, most, q, k, b, rfl, hW, hb, fun H1 hW1 fr1 => ?_⟩
    have ap := hW1.apart
    obtain ⟨⟨dx, ob⟩, hw, ⟨k1, hk, dk⟩, ⟨k2, ht, dt⟩, ⟨k3, hf, df⟩, hkt, hkf, htf, wU, wn, u12⟩ := hW1
    have hv : valV k3 (Sum.inr k) = (q.fl k).map V.int := df.vl k
    have go : ∀ G, WQAt U T.a_WorkQueue G most a { q.left k with fl := unsF q.fl k } → Fr a.all H G → ∀ (Q2 : Prop), (b = true → ∀ G', WQAt U T.a_WorkQueue G' most a (q.fin k) → Fr a.all G G' → Q .non G') ∧ (b = false → Q .non G) := fun G hG fG Q2 => by
      refine ⟨fun _ G' h1 h2 => c G' h1 (fG.trans h2), fun e => c G ?_ fG⟩
      unfold WQ.fin
      rw [if_neg (by rw [hb, e]; simp)]
      exact hG
    refine ⟨_, rfl, a.p, _, dx, _, _, rfl, ob, T.K_WorkQueue, T.na_WorkQueue__failures, fl_WorkQueue__failures, a.ff, rfl, .inl ⟨_, .inl hf⟩, _, rfl, k3, Sum.inr k, hf, rfl, fun v hv' => ?_, fun hv' => ?_⟩
    · have hG : WQAt U T.a_WorkQueue (upd H1 a.ff (.dK (dropK k3 (Sum.inr k)))) most a { q.left k with fl := unsF q.fl k } :=
        ⟨⟨dx, by rw [upd_ne ap.pf]; exact ob⟩, by rw [upd_ne ap.wf]; exact hw, ⟨_, by rw [upd_ne hkf]; exact hk, dk⟩, ⟨_, by rw [upd_ne htf]; exact ht, dt⟩, ⟨_, upd_same, ds_drop df k⟩, hkt, hkf, htf, wU, wn, u12⟩
      have fG : Fr a.all H (upd H1 a.ff (.dK (dropK k3 (Sum.inr k)))) := fr1.up (by simp [WP.all])
      generalize upd H1 a.ff (.dK (dropK k3 (Sum.inr k))) = G at hG fG
      obtain ⟨g1, g2⟩ := go G hG fG True
      obtain ⟨dx2, ob2⟩ := hG.ob
      refine ⟨_, rfl, b, rfl, ifb2 (fun hb2 => ?_) (fun hb2 => ?_)⟩
      · refine ⟨_, rfl, a.p, dx2, _, rfl, ob2, fl_WorkQueue_no_add, _, rfl, U, a, most, _, k, rfl, hG, hU, fun H2 h2 f2 => g1 hb2 H2 ?_ f2⟩
        unfold WQ.fin
        rw [if_pos (by rw [hb, hb2])]
        exact h2
      · exact g2 hb2
    · have fn : q.fl k = none := by rw [hv] at hv'; cases e : q.fl k with | none => rfl | some _ => rw [e] at hv'; cases hv'
      have e2 : unsF q.fl k = q.fl := by funext s; unfold unsF; split <;> simp_all
      have hG : WQAt U T.a_WorkQueue H1 most a { q.left k with fl := unsF q.fl k } := by
        rw [e2]
        exact ⟨⟨dx, ob⟩, hw, ⟨_, hk, dk⟩, ⟨_, ht, dt⟩, ⟨_, hf, df⟩, hkt, hkf, htf, wU, wn, u12⟩
      obtain ⟨g1, g2⟩ := go H1 hG fr1 True
      refine ⟨_, rfl, b, rfl, ifb2 (fun hb2 => ?_) (fun hb2 => ?_)⟩
      · refine ⟨_, rfl, a.p, dx, _, rfl, ob, fl_WorkQueue_no_add, _, rfl, U, a, most, _, k, rfl, hG, hU, fun H2 h2 f2 => g1 hb2 H2 ?_ f2⟩
        unfold WQ.fin
        rw [if_pos (by rw [hb, hb2])]
        exact h2
      · exact g2 hb2
theorem ok_WorkQueue_fail (T : TX K mg) : FnOk P w K mg base CX0 3 T.a_WorkQueue_fail T.d_WorkQueue_fail ["self", "key"] (sp_wqbad T.a_WorkQueue) := by
  refine T.F_WorkQueue_fail.ok sc_WorkQueue_fail (fun vs H Q E h => ?_) (fun cdv A outer s H vs Q E hr h => ?_)
  · obtain ⟨U, a, most, q, k, b, rfl, _⟩ := h
    rfl
  · obtain ⟨U, a, most, q, k, b, rfl, hW, hb, hfl, m1, m2, c⟩ := h
    refine ⟨_, (pss_cons (ps_set (i := 2) sc_WorkQueue_fail.nd rfl (Or.inl rfl) (pe_meth (pv 0) T.K_WorkQueue T.m_WorkQueue__leave (ok_WorkQueue__leave T) (hr.mono (by decide)) T.b_WorkQueue__leave .nil pass0 (pa_cons (pv 1) pa_nil)))
      (pss_cons (ps_dput (hu_of hr) (pe_fld (pv 0) rfl) (pv 1) (pe_op op_add (pe_meth (pv 0) T.K_WorkQueue T.m_WorkQueue_failures (ok_WorkQueue_failures T) (hr.mono (by decide)) T.b_WorkQueue_failures .nil pass0 (pa_cons (pv 1) pa_nil)) pe_int) rfl)
      (pss_one (ps_if (pt_truth (pv 2) (by intro _; rfl)) (pss_one (ps_expr (pe_meth (pv 0) T.K_WorkQueue T.m_WorkQueue_add (ok_WorkQueue_add T) (hr.mono (by decide)) T.b_WorkQueue_add .nil pass0 (pa_cons (pv 1) pa_nil)))) (pss_one (ps_expr (pe_meth (pv 0) T.K_WorkQueue T.m_WorkQueue_add_later (ok_WorkQueue_add_later T) (hr.mono (by decide)) T.b_WorkQueue_add_later .nil pass0 (pa_cons (pv 1) (pa_cons (pe_meth (pv 0) T.K_WorkQueue T.m_WorkQueue__delay (ok_WorkQueue__delay T) (hr.mono (by decide)) T.b_WorkQueue__delay .nil pass0 (pa_cons (pv 1) pa_nil)) pa_nil))))))))), ?_⟩
    obtain ⟨dx, ob⟩ := hW.ob
    have hU := wk_in hW (k := k) (by rw [hb]; rfl)
    refine ⟨_, rfl, a.p, dx, _, rfl, ob, fl_WorkQueue_no__leave, _, rfl, U, a, most, q, k, b, rfl, hW, hb, fun H1 hW1 fr1 => ?_⟩
    have hW1' := hW1
    have ap := hW1.apart
    obtain ⟨⟨dx, ob⟩, hw, ⟨k1, hk, dk⟩, ⟨k2, ht, dt⟩, ⟨k3, hf, df⟩, hkt, hkf, htf, wU, wn, u12⟩ := hW1
    have l3 := ds_len df
    refine ⟨_, rfl, a.p, dx, _, rfl, ob, fl_WorkQueue_no_failures, _, rfl, U, a, most, _, k, rfl, hW1', _, _, rfl, rfl, ?_⟩
    refine ⟨_, rfl, a.p, _, dx, _, _, rfl, ob, T.K_WorkQueue, T.na_WorkQueue__failures, fl_WorkQueue__failures, _, rfl, a.ff, _, rfl, DPut.k (k := Sum.inr k) hf (szl (by omega)), ?_⟩
    have n0 : 1 ≤ (q.fl k).getD 0 + 1 := by
      cases e : q.fl k with
      | none => decide
      | some n => have := hfl k n e; simp only [Option.getD_some]; omega
    have hG : WQAt U T.a_WorkQueue (upd H1 a.ff (.dK (putK k3 (Sum.inr k) (.int ((q.fl k).getD 0 + 1))))) most a { q.left k with fl := setF q.fl k ((q.fl k).getD 0 + 1) } :=
      ⟨⟨dx, by rw [upd_ne ap.pf]; exact ob⟩, by rw [upd_ne ap.wf]; exact hw, ⟨_, by rw [upd_ne hkf]; exact hk, dk⟩, ⟨_, by rw [upd_ne htf]; exact ht, dt⟩, ⟨_, upd_same, ds_put df hU _⟩, hkt, hkf, htf, wU, wn, u12⟩
    have fG : Fr a.all H (upd H1 a.ff (.dK (putK k3 (Sum.inr k) (.int ((q.fl k).getD 0 + 1))))) := fr1.up (by simp [WP.all])
    obtain ⟨dx2, ob2⟩ := hG.ob
    refine ⟨_, rfl, b, rfl, ifb2 (fun hb2 => ?_) (fun hb2 => ?_)⟩
    · refine ⟨_, rfl, a.p, dx2, _, rfl, ob2, fl_WorkQueue_no_add, _, rfl, U, a, most, _, k, rfl, hG, hU, fun H2 h2 f2 => c H2 ?_ (fG.trans f2)⟩
      unfold WQ.bad
      rw [if_pos (by rw [hb, hb2])]
      exact h2
    · refine ⟨_, rfl, a.p, dx2, _, rfl, ob2, fl_WorkQueue_no_add_later, _, rfl, _, rfl, a.p, dx2, _, rfl, ob2, fl_WorkQueue_no__delay, _, rfl, U, a, most, _, k, _, rfl, hG, setF_same _ _ _, n0, m1, m2, U, a, most, _, k, _, rfl, hG, hU, fun H2 h2 f2 => c H2 ?_ (fG.trans f2)⟩
      unfold WQ.bad
      rw [if_neg (by rw [hb, hb2]; simp)]
      exact h2
end
/-! the draws of a script: some numbers from 0 to 999 -/
def Drawn (ds : List Int) : Prop := ∀ d ∈ ds, 0 ≤ d ∧ d < 1000
theorem drawn_snoc {ds : List Int} {d : Int} (h : Drawn ds) (h0 : 0 ≤ d) (h1 : d < 1000) : Drawn (ds ++ [d]) := fun e he => by
  rcases List.mem_append.mp he with he | he
  · exact h e he
  · rw [List.mem_singleton] at he
    subst he
    exact ⟨h0, h1⟩
def sp_mix : Sp := fun vs H Q _ => ∃ (c k : Int), vs = [.int c, .int k] ∧ ∀ x : Int, 0 ≤ x → x < 1000 → Q (.int x) H
def sp_row (K : PySem.W.Frag) : Sp := fun vs H Q _ => ∃ (a : Addr) (ns : List Int) (most : Int), vs = [.ref a, .int most] ∧ SqL K H a (ns.map V.int) ∧ ns.length ≤ 63 ∧ 0 ≤ most ∧ most ≤ 1000 ∧
  ∀ (p : Addr) (H' : Hp) (ds : List Int), H p = none → Same H H' → H' p = some (.lst (ds.map V.int)) → Drawn ds → ds.length ≤ most → Q (.ref p) H'
section
variable {P : Program} {w : World} {K : PySem.W.Frag} {mg : Str → Option Value} {base : Heap}
theorem ok__law_mix (T : TX K mg) : FnOk P w K mg base CX0 1 T.a__law_mix T.d__law_mix ["cell", "k"] sp_mix := by
  refine T.F__law_mix.ok sc__law_mix (fun vs H Q E h => ?_) (fun cdv A outer s H vs Q E hr h => ?_)
  · obtain ⟨c, k, rfl, _⟩ := h
    rfl
  · obtain ⟨c, k, rfl, q⟩ := h
    refine ⟨_, (pss_cons (ps_set (i := 2) sc__law_mix.nd rfl (Or.inl rfl) (pe_op op_mod (pe_callTy call_int1 (by rfl) T.n_int (by decide +kernel) (pa_cons (pe_op op_add (pe_op op_add (pe_op op_mul (pv 0) pe_int) (pe_op op_mul (pv 1) pe_int)) pe_int) pa_nil)) pe_int))
      (pss_one (ps_ret (pe_op op_mod (pe_op op_mod (pe_callTy call_int1 (by rfl) T.n_int (by decide +kernel) (pa_cons (pe_op op_add (pe_op op_add (pe_op op_add (pe_op op_mul (pv 2) (pv 2)) (pe_op op_mul (pv 0) pe_int)) (pe_op op_mul (pv 1) pe_int)) pe_int) pa_nil)) pe_int) pe_int)))), ?_⟩
    refine ⟨_, rfl, _, _, rfl, rfl, .inr ⟨by decide, by decide⟩, _, rfl, _, _, rfl, rfl, .inr ⟨by decide, by decide⟩, _, _, rfl, rfl, _, _, rfl, rfl, .inl ⟨_, rfl, _, _, rfl, rfl, (by show (0 : Int) < _; decide), ?_⟩⟩
    dsimp only
    have l0 := Int.emod_nonneg (c * 48271 + k * 69621 + 11) (show (2147483647 : Int) ≠ 0 by decide)
    have l1 := Int.emod_lt_of_pos (c * 48271 + k * 69621 + 11) (show (0 : Int) < 2147483647 by decide)
    generalize (c * 48271 + k * 69621 + 11) % 2147483647 = low at l0 l1
    refine ⟨_, rfl, _, rfl, _, _, rfl, rfl, .inl ⟨by omega, by omega⟩, _, rfl, _, _, rfl, rfl, .inr ⟨by decide, by decide⟩, _, _, rfl, rfl, _, rfl, _, _, rfl, rfl, .inr ⟨by decide, by decide⟩, _, _, rfl, rfl, _, _, rfl, rfl, .inl ⟨_, rfl, _, _, rfl, rfl, (by show (0 : Int) < _; decide), _, _, rfl, rfl, (by show (0 : Int) < _; decide), ?_⟩⟩
    exact q _ (Int.emod_nonneg _ (by decide)) (Int.emod_lt_of_pos _ (by decide))
theorem ok__law_row (T : TX K mg) : FnOk P w K mg base CX0 2 T.a__law_row T.d__law_row ["script", "most"] (sp_row K) := by
  refine T.F__law_row.ok sc__law_row (fun vs H Q E h => ?_) (fun cdv A outer s H vs Q E hr h => ?_)
  · obtain ⟨a, ns, most, rfl, _⟩ := h
    rfl
  · obtain ⟨a, ns, most, rfl, hS, hns, hm0, hm1, q⟩ := h
    refine ⟨_, (pss_cons (ps_set (i := 2) sc__law_row.nd rfl (Or.inl rfl) (pe_lst pa_nil))
      (pss_cons (ps_for PassesOwn.never rfl (pi_range1 (by rfl) T.n_range (pa_cons (pe_callB (call_min2 rfl) (by rfl) T.n_min (by decide +kernel) (pa_cons (pe_callB call_len_seq (by rfl) T.n_len PySem.boot_len (pa_cons (pv 0) pa_nil)) (pa_cons pe_int pa_nil))) pa_nil)) (pg_name (i := 3) sc__law_row.nd rfl (Or.inl rfl))
        (pss_cons (ps_set (i := 4) sc__law_row.nd rfl (Or.inl rfl) (pe_ix ix_list (pv 0) (pv 3) (fun _ _ => rfl)))
        (pss_one (ps_if (pt_cmpR op_ge (pv 4) (pe_op op_pow pe_int pe_int) (nomark _)) (pss_one (ps_for PassesOwn.never rfl (pi_range1 (by rfl) T.n_range (pa_cons pe_int pa_nil)) (pg_name (i := 5) sc__law_row.nd rfl (Or.inl rfl))
            (pss_one (ps_if (PW.pt (pw_and (pt_cmpR op_gt (pv 4) pe_int (nomark _)) (pw_and1 (pt_cmpR op_lt (pe_callB call_len_seq (by rfl) T.n_len PySem.boot_len (pa_cons (pv 2) pa_nil)) (pv 1) (nomark _))))) (pss_cons (ps_expr (pe_bm PySem.F.plainAttrs_list PySem.F.slot_list_append PySem.F.type_list_append mt_append (pv 2) (pa_cons (pe_op op_mod (pe_callTy call_int1 (by rfl) T.n_int (by decide +kernel) (pa_cons (pv 4) pa_nil)) pe_int) pa_nil)))
              (pss_one (ps_set (i := 4) sc__law_row.nd rfl (Or.inl rfl) (pe_op op_fdiv (pv 4) pe_int)))) pss_nil)))) (pss_one (ps_for PassesOwn.never rfl (pi_range1 (by rfl) T.n_range (pa_cons pe_int pa_nil)) (pg_name (i := 5) sc__law_row.nd rfl (Or.inl rfl))
            (pss_one (ps_if (pt_cmpR op_lt (pe_callB call_len_seq (by rfl) T.n_len PySem.boot_len (pa_cons (pv 2) pa_nil)) (pv 1) (nomark _)) (pss_one (ps_expr (pe_bm PySem.F.plainAttrs_list PySem.F.slot_list_append PySem.F.type_list_append mt_append (pv 2) (pa_cons (pe_call (ok__law_mix T) (hr.mono (by decide)) (by rfl) T.g__law_mix T.F__law_mix.kp T.b__law_mix .nil pass0 (pa_cons (pv 4) (pa_cons (pe_op op_add (pe_op op_mul pe_int (pv 5)) (pv 3)) pa_nil))) pa_nil)))) pss_nil))))))))
      (pss_one (ps_ret (pv 2))))), ?_⟩
    refine ⟨Nat.zero_le _, fun o ho => ?_⟩
    have s1 := same_upd (o := .lst []) ho
    have hml : (ns.map V.int).length = ns.length := List.length_map _
    refine ⟨_, rfl, a, _, rfl, .inl (s1.seq hS), _, _, rfl, ?_⟩
    obtain ⟨m, hm, hm63, hmn⟩ : ∃ m : Nat, (if (63 : Int) < ((ns.map V.int).length : Int) then (63 : Int) else ((ns.map V.int).length : Int)) = (m : Int) ∧ m ≤ 63 ∧ m ≤ ns.length := by
      rw [hml]
      refine ⟨min ns.length 63, ?_, by omega, by omega⟩
      split <;> omega
    refine ⟨(m : Int), by rw [← hm], by omega, by omega, for_range (lo := 0) (n := _) (fun i σ H2 => ∃ (ds : List Int) (x3 x4 x5 : Option V), σ = [some (.ref a), some (.int most), some (.ref o), x3, x4, x5] ∧ Same H H2 ∧ H2 o = some (.lst (ds.map V.int)) ∧ Drawn ds ∧ (ds.length : Int) ≤ most)
      ⟨[], none, none, none, rfl, s1, upd_same, (fun _ h => by cases h), hm0⟩ ?_ ?_⟩
    · rintro i σ H2 hi ⟨ds, x3, x4, x5, rfl, g1, g2, g3, g4⟩
      have him : i < m := by omega
      have hg : ns[i]? = some ns[i] := List.getElem?_eq_getElem (by omega)
      have ha : atI (ns.map V.int) (0 + (i : Int)) = some (.int ns[i]) := by rw [Int.zero_add]; exact at_map hg
      generalize ns[i] = c at ha
      refine ⟨_, rfl, _, rfl, a, _, _, _, rfl, rfl, g1.seq hS, ha, ?_⟩
      refine ⟨_, rfl, _, _, rfl, rfl, ⟨by decide, by decide, by decide⟩, _, _, rfl, rfl, _, rfl, ifd (fun hb => ?_) (fun hb => ?_)⟩
      · have hc : 0 ≤ c := by
          have hb' : c ≥ 10 ^ 18 := hb
          omega
        refine ⟨60, rfl, by decide, by decide, for_range (lo := 0) (n := 60) (fun j σ H3 => ∃ (es : List Int) (rest : Int) (x5 : Option V), 0 ≤ rest ∧ σ = [some (.ref a), some (.int most), some (.ref o), some (.int (0 + (i : Int))), some (.int rest), x5] ∧ Same H H3 ∧ H3 o = some (.lst (es.map V.int)) ∧ Drawn es ∧ (es.length : Int) ≤ most)
          ⟨ds, c, x5, hc, rfl, g1, g2, g3, g4⟩ ?_ ?_⟩
        · rintro j σ H3 hj ⟨es, rest, x5, h0, rfl, k1, k2, k3, k4⟩
          refine ⟨_, rfl, _, _, rfl, rfl, _, rfl, ifd (fun hb => ?_) (fun hb => ?_)⟩
          · refine ⟨_, rfl, o, _, rfl, .inl (sql k2), _, rfl, _, _, rfl, rfl, _, rfl, ifd (fun hb2 => ?_) (fun hb2 => ?_)⟩
            · have hb3 : ((es.map V.int).length : Int) < most := hb2
              rw [List.length_map] at hb3
              refine ⟨_, rfl, .inl ⟨rfl, _, sql k2⟩, _, rfl, .inl ⟨_, rfl, _, _, rfl, rfl, (by show (0 : Int) < _; decide), o, _, _, rfl, rfl, k2, szl (by rw [List.length_map]; omega), ?_⟩⟩
              refine ⟨_, rfl, _, _, rfl, rfl, ⟨by decide, by decide⟩, ?_⟩
              refine ⟨es ++ [rest % 1000], rest / 1000, some (.int (0 + (j : Int))), Int.ediv_nonneg h0 (by decide), rfl, same_put k1 ho, ?_, drawn_snoc k3 (Int.emod_nonneg _ (by decide)) (Int.emod_lt_of_pos _ (by decide)), by rw [List.length_append]; simp only [List.length_cons, List.length_nil]; omega⟩
              rw [upd_same, List.map_append]
              rfl
            · exact ⟨es, rest, some (.int (0 + (j : Int))), h0, rfl, k1, k2, k3, k4⟩
          · exact ⟨es, rest, some (.int (0 + (j : Int))), h0, rfl, k1, k2, k3, k4⟩
        · rintro σ H3 ⟨es, rest, x5, h0, rfl, k1, k2, k3, k4⟩
          exact ⟨es, _, _, _, rfl, k1, k2, k3, k4⟩
      · refine ⟨3, rfl, by decide, by decide, for_range (lo := 0) (n := 3) (fun j σ H3 => ∃ (es : List Int) (x5 : Option V), σ = [some (.ref a), some (.int most), some (.ref o), some (.int (0 + (i : Int))), some (.int c), x5] ∧ Same H H3 ∧ H3 o = some (.lst (es.map V.int)) ∧ Drawn es ∧ (es.length : Int) ≤ most)
          ⟨ds, x5, rfl, g1, g2, g3, g4⟩ ?_ ?_⟩
        · rintro j σ H3 hj ⟨es, x5, rfl, k1, k2, k3, k4⟩
          refine ⟨_, rfl, o, _, rfl, .inl (sql k2), _, rfl, _, _, rfl, rfl, _, rfl, ifd (fun hb2 => ?_) (fun hb2 => ?_)⟩
          · have hb3 : ((es.map V.int).length : Int) < most := hb2
            rw [List.length_map] at hb3
            refine ⟨_, rfl, .inl ⟨rfl, _, sql k2⟩, _, rfl, _, rfl, _, _, rfl, rfl, .inl ⟨by decide, by decide⟩, _, rfl, _, _, rfl, rfl, _, _, rfl, fun x hx0 hx1 => ⟨o, _, _, rfl, rfl, k2, szl (by rw [List.length_map]; omega), ?_⟩⟩
            refine ⟨es ++ [x], some (.int (0 + (j : Int))), rfl, same_put k1 ho, ?_, drawn_snoc k3 hx0 hx1, by rw [List.length_append]; simp only [List.length_cons, List.length_nil]; omega⟩
            rw [upd_same, List.map_append]
            rfl
          · exact ⟨es, some (.int (0 + (j : Int))), rfl, k1, k2, k3, k4⟩
        · rintro σ H3 ⟨es, x5, rfl, k1, k2, k3, k4⟩
          exact ⟨es, _, _, _, rfl, k1, k2, k3, k4⟩
    · rintro σ H2 ⟨ds, x3, x4, x5, rfl, g1, g2, g3, g4⟩
      exact ⟨_, rfl, q o _ ds ho g1 g2 g3 g4⟩
end
def U45 : List Str := (List.range 12).map fun i => ⟨#[97 + i]⟩
theorem key45 {i : Int} (h0 : 0 ≤ i) (h : i < 12) : ∃ c, atI ("abcdefghijkl" : Str).cps.toList i = some c ∧ (⟨#[c]⟩ : Str) ∈ U45 := by
  have z : ∀ j, j < 12 → (("abcdefghijkl" : Str).cps.toList[j]?.any fun c => decide ((⟨#[c]⟩ : Str) ∈ U45)) = true := by decide +kernel
  have := z i.toNat (by omega)
  cases e : ("abcdefghijkl" : Str).cps.toList[i.toNat]? with
  | none => rw [e] at this; cases this
  | some c =>
    rw [e] at this
    refine ⟨c, ?_, of_decide_eq_true this⟩
    have := atI_nat e
    rwa [Int.toNat_of_nonneg h0] at this
structure W45 (C : Addr) (H : Hp) (most : Int) (a : WP) (lw lo : Addr) (q : WQ) (wk od : List Str) : Prop where
  W : WQAt U45 C H most a q
  hl : H lw = some (.lst (wk.map V.str))
  ho : H lo = some (.lst (od.map V.str))
  n1 : lw ≠ a.aw
  n2 : lo ≠ a.aw
  n3 : lw ≠ lo
theorem not_in {C : Addr} {H : Hp} {most : Int} {a : WP} {q : WQ} {l : Addr} {xs : List V} {U : List Str} (h : WQAt U C H most a q) (hl : H l = some (.lst xs)) (n : l ≠ a.aw) : l ∉ a.all := fun hm => by
  obtain ⟨⟨dx, ob⟩, hw, ⟨k1, hk, _⟩, ⟨k2, ht, _⟩, ⟨k3, hf, _⟩, _⟩ := h
  have : l = a.p ∨ l = a.aw ∨ l = a.ak ∨ l = a.tt ∨ l = a.ff := by simpa [WP.all] using hm
  rcases this with rfl | e | rfl | rfl | rfl
  · rw [ob] at hl; cases hl
  · exact n e
  · rw [hk] at hl; cases hl
  · rw [ht] at hl; cases hl
  · rw [hf] at hl; cases hl
section
variable {C : Addr} {H H' : Hp} {most : Int} {a : WP} {lw lo : Addr} {q q' : WQ} {wk od : List Str}
theorem W45.same (h : W45 C H most a lw lo q wk od) (s : Same H H') : W45 C H' most a lw lo q wk od := ⟨h.W.same s, s _ _ h.hl, s _ _ h.ho, h.n1, h.n2, h.n3⟩
/-- a step of the queue alone -/
theorem W45.queue (h : W45 C H most a lw lo q wk od) {d : Addr} (hW : WQAt U45 C H' most { a with tt := d } q') (f : Fr a.all H H') : W45 C H' most { a with tt := d } lw lo q' wk od :=
  ⟨hW, f _ _ h.hl (not_in h.W h.hl h.n1), f _ _ h.ho (not_in h.W h.ho h.n2), h.n1, h.n2, h.n3⟩
theorem W45.setL (h : W45 C H most a lw lo q wk od) (wk' : List Str) : W45 C (upd H lw (.lst (wk'.map V.str))) most a lw lo q wk' od := by
  have f : Fr [lw] H (upd H lw (.lst (wk'.map V.str))) := (Fr.refl _ _).up (by simp)
  refine ⟨h.W.frame f fun x hx hm => ?_, upd_same, by rw [upd_ne h.n3.symm]; exact h.ho, h.n1, h.n2, h.n3⟩
  rw [List.mem_singleton] at hm
  exact not_in h.W h.hl h.n1 (by rw [← hm]; exact hx)
theorem W45.setO (h : W45 C H most a lw lo q wk od) (od' : List Str) : W45 C (upd H lo (.lst (od'.map V.str))) most a lw lo q wk od' := by
  have f : Fr [lo] H (upd H lo (.lst (od'.map V.str))) := (Fr.refl _ _).up (by simp)
  refine ⟨h.W.frame f fun x hx hm => ?_, by rw [upd_ne h.n3]; exact h.hl, upd_same, h.n1, h.n2, h.n3⟩
  rw [List.mem_singleton] at hm
  exact not_in h.W h.ho h.n2 (by rw [← hm]; exact hx)
end
def FrW (a : WP) (lw lo : Addr) (H H' : Hp) : Prop := Fr (lw :: lo :: a.all) H H'
theorem od_len {C : Addr} {H : Hp} {most : Int} {a : WP} {q : WQ} {wk od : List Str} (h : WQAt U45 C H most a q) (i : Inv45 q wk od) : wk.length ≤ 12 ∧ od.length ≤ 12 := by
  have u : U45.length = 12 := by decide +kernel
  rw [← u]
  refine ⟨nd_len i.n3 fun x hx => wk_in h ((i.a3 x).mp hx), nd_len i.n4 fun x hx => ?_⟩
  rcases (i.a4 x).mp hx with hx | hx | hx
  · exact h.wU x hx
  · exact wk_in h (by rw [hx]; rfl)
  · obtain ⟨k2, _, dt⟩ := h.ht
    exact keys_in dt x ((key_iff dt x).mpr hx)
def sp_lkey : Sp := fun vs H Q _ => ∃ (n : Int), vs = [.int n] ∧ ∀ z ∈ U45, Q (.str z) H
def sp_ltake (C : Addr) : Sp := fun vs H Q _ => ∃ (a : WP) (lw lo : Addr) (most : Int) (q : WQ) (wk od : List Str), vs = [.ref a.p, .ref lw, .ref lo] ∧ W45 C H most a lw lo q wk od ∧ wk.length ≤ 12 ∧
  ((q.w = [] ∧ Q (.bl true) H) ∨ ∃ k r, q.w = k :: r ∧ k ∉ wk ∧ k ∈ od ∧ ∀ H', W45 C H' most a lw lo { q with w := r, wk := setF q.wk k false } (wk ++ [k]) (od.erase k) → FrW a lw lo H H' → Q (.bl true) H')
def sp_lowe : Sp := fun vs H Q _ => ∃ (lo : Addr) (od : List Str) (k : Str), vs = [.ref lo, .str k] ∧ H lo = some (.lst (od.map V.str)) ∧ od.length ≤ 12 ∧ (k ∈ od → Q .non H) ∧ (k ∉ od → Q .non (upd H lo (.lst ((od ++ [k]).map V.str))))
section
variable {P : Program} {w : World} {K : PySem.W.Frag} {mg : Str → Option Value} {base : Heap}
theorem ok__law_key (T : TX K mg) : FnOk P w K mg base CX0 1 T.a__law_key T.d__law_key ["number"] sp_lkey := by
  refine T.F__law_key.ok sc__law_key (fun vs H Q E h => ?_) (fun cdv A outer s H vs Q E hr h => ?_)
  · obtain ⟨n, rfl, _⟩ := h
    rfl
  · obtain ⟨n, rfl, q⟩ := h
    refine ⟨_, (pss_one (ps_ret (pe_ix ix_str pe_str (pe_op op_mod (pe_callTy call_int1 (by rfl) T.n_int (by decide +kernel) (pa_cons (pv 0) pa_nil)) pe_int) (fun _ _ => rfl)))), ?_⟩
    obtain ⟨c, hc, hU⟩ := key45 (i := n % 12) (Int.emod_nonneg _ (by decide)) (Int.emod_lt_of_pos _ (by decide))
    exact ⟨_, rfl, .inl ⟨_, rfl, _, _, rfl, rfl, (by show (0 : Int) < _; decide), _, _, c, rfl, rfl, (by decide +kernel), hc, q _ hU⟩⟩
theorem ok__law_owe (T : TX K mg) : FnOk P w K mg base CX0 1 T.a__law_owe T.d__law_owe ["owed", "key"] sp_lowe := by
  refine T.F__law_owe.ok sc__law_owe (fun vs H Q E h => ?_) (fun cdv A outer s H vs Q E hr h => ?_)
  · obtain ⟨lo, od, k, rfl, _⟩ := h
    rfl
  · obtain ⟨lo, od, k, rfl, ho, hl, q0, q1⟩ := h
    refine ⟨_, (pss_one (ps_if (pt_cmpR op_notIn_seq (pv 1) (pv 0) rfl) (pss_one (ps_expr (pe_bm PySem.F.plainAttrs_list PySem.F.slot_list_append PySem.F.type_list_append mt_append (pv 0) (pa_cons (pv 1) pa_nil)))) pss_nil)), ?_⟩
    refine ⟨_, rfl, _, rfl, lo, _, rfl, .inl (sql ho), rfl, flat_strs _, _, rfl, ?_⟩
    rw [inV_str]
    dsimp only
    refine ifn (fun h1 => ?_) (fun h1 => ?_)
    · refine ⟨_, rfl, .inl ⟨rfl, _, sql ho⟩, _, rfl, lo, _, _, rfl, rfl, ho, szl (by rw [List.length_map]; omega), ?_⟩
      have := q1 h1
      rw [List.map_append] at this
      exact this
    · exact q0 h1
theorem ok__law_take (T : TX K mg) : FnOk P w K mg base CX0 2 T.a__law_take T.d__law_take ["queue", "work", "owed"] (sp_ltake T.a_WorkQueue) := by
  refine T.F__law_take.ok sc__law_take (fun vs H Q E h => ?_) (fun cdv A outer s H vs Q E hr h => ?_)
  · obtain ⟨a, lw, lo, most, q, wk, od, rfl, _⟩ := h
    rfl
  · obtain ⟨a, lw, lo, most, q, wk, od, rfl, hV, hl, c⟩ := h
    refine ⟨_, (pss_cons (ps_set (i := 3) sc__law_take.nd rfl (Or.inl rfl) (pe_meth0 (pv 0) T.K_WorkQueue T.m_WorkQueue_take (ok_WorkQueue_take T) (hr.mono (by decide)) T.b_WorkQueue_take .nil pass0))
      (pss_cons (ps_if (pt_cmpR op_isN (pv 3) pe_non (nomark _)) (pss_one (ps_ret pe_bl)) pss_nil)
      (pss_cons (ps_if (PW.pt (pw_or (pt_cmpR op_in_seq (pv 3) (pv 1) rfl) (pw_or1 (pt_cmpR op_notIn_seq (pv 3) (pv 2) rfl)))) (pss_one (ps_ret pe_bl)) pss_nil)
      (pss_cons (ps_expr (pe_bm PySem.F.plainAttrs_list PySem.F.slot_list_remove PySem.F.type_list_remove mt_removeS (pv 2) (pa_cons (pv 3) pa_nil)))
      (pss_cons (ps_expr (pe_bm PySem.F.plainAttrs_list PySem.F.slot_list_append PySem.F.type_list_append mt_append (pv 1) (pa_cons (pv 3) pa_nil)))
      (pss_one (ps_ret pe_bl))))))), ?_⟩
    obtain ⟨dx, ob⟩ := hV.W.ob
    refine ⟨_, rfl, a.p, dx, _, rfl, ob, fl_WorkQueue_no_take, U45, a, most, q, rfl, hV.W, fun e => ?_, fun k r e H1 hW1 fr => ?_⟩
    · rcases c with ⟨_, c⟩ | ⟨k, r, e', _⟩
      · exact ⟨_, rfl, rfl, _, rfl, ift rfl c⟩
      · rw [e] at e'; cases e'
    · rcases c with ⟨e', _⟩ | ⟨k', r', e', hk, ho, c⟩
      · rw [e] at e'; cases e'
      · rw [e] at e'
        obtain ⟨rfl, rfl⟩ : k = k' ∧ r = r' := by cases e'; exact ⟨rfl, rfl⟩
        have hV1 : W45 T.a_WorkQueue H1 most a lw lo { q with w := r, wk := setF q.wk k false } wk od := hV.queue (d := a.tt) hW1 fr
        refine ⟨_, rfl, rfl, _, rfl, iff0 (by simp) ?_⟩
        refine ⟨_, rfl, _, rfl, lw, _, rfl, .inl (sql hV1.hl), rfl, flat_strs _, _, rfl, ifbf (by show inV _ _ = false; rw [inV_str]; exact decide_eq_false hk) ?_⟩
        refine ⟨_, rfl, _, rfl, lo, _, rfl, .inl (sql hV1.ho), rfl, flat_strs _, _, rfl, ifbf (by show (!inV _ _) = false; rw [inV_str, decide_eq_true ho]; rfl) ?_⟩
        refine ⟨_, rfl, .inl ⟨rfl, _, sql hV1.ho⟩, _, rfl, lo, od, k, rfl, rfl, hV1.ho, ho, ?_⟩
        have hV2 := hV1.setO (od.erase k)
        have f2 : FrW a lw lo H (upd H1 lo (.lst ((od.erase k).map V.str))) := (fr.more (by intro x hx; simp [hx])).up (by simp)
        change tSeq _ _ _ _ (upd H1 lo (.lst ((od.erase k).map V.str)))
        generalize upd H1 lo (.lst ((od.erase k).map V.str)) = H2 at hV2 f2
        refine ⟨_, rfl, .inl ⟨rfl, _, sql hV2.hl⟩, _, rfl, lw, _, _, rfl, rfl, hV2.hl, szl (by rw [List.length_map]; omega), ?_⟩
        have hV3 := hV2.setL (wk ++ [k])
        have := c _ hV3 (f2.up (by simp))
        rw [List.map_append] at this
        exact this
end
def sp_ldeed (C : Addr) : Sp := fun vs H Q _ => ∃ (a : WP) (lw lo : Addr) (most : Int) (q : WQ) (wk od : List Str) (n : Int), vs = [.ref a.p, .ref lw, .ref lo, .int n] ∧ W45 C H most a lw lo q wk od ∧ Inv45 q wk od ∧ 1 ≤ most ∧ most ≤ 64 ∧
  ∀ H' d q' wk' od', W45 C H' most { a with tt := d } lw lo q' wk' od' → Inv45 q' wk' od' → FrW a lw lo H H' → Q (.bl true) H'
theorem mem_eraseIdx {l : List Str} (nd : l.Nodup) {j : Nat} {k : Str} (h : l[j]? = some k) : (∀ x, x ∈ l.eraseIdx j ↔ x ∈ l ∧ x ≠ k) ∧ (l.eraseIdx j).Nodup := by
  obtain ⟨hj, e⟩ := List.getElem?_eq_some_iff.mp h
  have ei : l.idxOf k = j := by
    have h1 : l.idxOf k < l.length := List.idxOf_lt_length_iff.mpr (by rw [← e]; exact List.getElem_mem _)
    have h2 : l[l.idxOf k] = k := List.getElem_idxOf h1
    exact (List.getElem_inj nd).mp (h2.trans e.symm)
  have ee : l.eraseIdx j = l.erase k := (List.erase_eq_eraseIdx_of_idxOf ei).symm
  rw [ee]
  exact ⟨fun x => by rw [nd.mem_erase_iff]; exact And.comm, nd.erase k⟩
section
variable {P : Program} {w : World} {K : PySem.W.Frag} {mg : Str → Option Value} {base : Heap}
theorem ok__law_deed (T : TX K mg) : FnOk P w K mg base CX0 4 T.a__law_deed T.d__law_deed ["queue", "work", "owed", "number"] (sp_ldeed T.a_WorkQueue) := by
  refine T.F__law_deed.ok sc__law_deed (fun vs H Q E h => ?_) (fun cdv A outer s H vs Q E hr h => ?_)
  · obtain ⟨a, lw, lo, most, q, wk, od, n, rfl, _⟩ := h
    rfl
  · obtain ⟨a, lw, lo, most, q, wk, od, n, rfl, hV, hI, m1, m2, c⟩ := h
    refine ⟨_, (pss_cons (ps_set (i := 4) sc__law_deed.nd rfl (Or.inl rfl) (pe_call (ok__law_key T) (hr.mono (by decide)) (by rfl) T.g__law_key T.F__law_key.kp T.b__law_key .nil pass0 (pa_cons (pe_op op_fdiv (pv 3) pe_int) pa_nil)))
      (pss_cons (ps_set (i := 5) sc__law_deed.nd rfl (Or.inl rfl) (pe_op op_mod (pe_callTy call_int1 (by rfl) T.n_int (by decide +kernel) (pa_cons (pv 3) pa_nil)) pe_int))
      (pss_cons (ps_if (pt_cmpR op_in_seq (pv 5) (pe_tup (pa_cons pe_int (pa_cons pe_int pa_nil))) rfl) (pss_cons (ps_expr (pe_meth (pv 0) T.K_WorkQueue T.m_WorkQueue_add (ok_WorkQueue_add T) (hr.mono (by decide)) T.b_WorkQueue_add .nil pass0 (pa_cons (pv 4) pa_nil)))
        (pss_one (ps_expr (pe_call (ok__law_owe T) (hr.mono (by decide)) (by rfl) T.g__law_owe T.F__law_owe.kp T.b__law_owe .nil pass0 (pa_cons (pv 2) (pa_cons (pv 4) pa_nil)))))) (pss_one (ps_if (pt_cmpR op_eq (pv 5) pe_int (nomark _)) (pss_cons (ps_expr (pe_meth (pv 0) T.K_WorkQueue T.m_WorkQueue_add_later (ok_WorkQueue_add_later T) (hr.mono (by decide)) T.b_WorkQueue_add_later .nil pass0 (pa_cons (pv 4) (pa_cons (pe_op op_mul (pe_op op_mod (pe_callTy call_int1 (by rfl) T.n_int (by decide +kernel) (pa_cons (pe_op op_fdiv (pv 3) pe_int) pa_nil)) pe_int) pe_int) pa_nil))))
          (pss_one (ps_expr (pe_call (ok__law_owe T) (hr.mono (by decide)) (by rfl) T.g__law_owe T.F__law_owe.kp T.b__law_owe .nil pass0 (pa_cons (pv 2) (pa_cons (pv 4) pa_nil)))))) (pss_one (ps_if (pt_cmpR op_in_seq (pv 5) (pe_tup (pa_cons pe_int (pa_cons pe_int pa_nil))) rfl) (pss_one (ps_ret (pe_call (ok__law_take T) (hr.mono (by decide)) (by rfl) T.g__law_take T.F__law_take.kp T.b__law_take .nil pass0 (pa_cons (pv 0) (pa_cons (pv 1) (pa_cons (pv 2) pa_nil)))))) (pss_one (ps_if (pt_cmpR op_in_seq (pv 5) (pe_tup (pa_cons pe_int (pa_cons pe_int pa_nil))) rfl) (pss_one (ps_if (pt_truth (pv 1) (by intro _; rfl)) (pss_cons (ps_set (i := 6) sc__law_deed.nd rfl (Or.inl rfl) (pe_op op_mul (pe_op op_mod (pe_callTy call_int1 (by rfl) T.n_int (by decide +kernel) (pa_cons (pe_op op_fdiv (pv 3) pe_int) pa_nil)) pe_int) (pe_op op_sub (pe_callB call_len_seq (by rfl) T.n_len PySem.boot_len (pa_cons (pv 1) pa_nil)) pe_int)))
                (pss_cons (ps_set (i := 4) sc__law_deed.nd rfl (Or.inl rfl) (pe_bm PySem.F.plainAttrs_list PySem.F.slot_list_pop PySem.F.type_list_pop mt_popAt (pv 1) (pa_cons (pv 6) pa_nil)))
                (pss_one (ps_if (pt_cmpR op_eq (pv 5) pe_int (nomark _)) (pss_one (ps_expr (pe_meth (pv 0) T.K_WorkQueue T.m_WorkQueue_finish (ok_WorkQueue_finish T) (hr.mono (by decide)) T.b_WorkQueue_finish .nil pass0 (pa_cons (pv 4) pa_nil)))) (pss_cons (ps_expr (pe_meth (pv 0) T.K_WorkQueue T.m_WorkQueue_fail (ok_WorkQueue_fail T) (hr.mono (by decide)) T.b_WorkQueue_fail .nil pass0 (pa_cons (pv 4) pa_nil)))
                  (pss_one (ps_expr (pe_call (ok__law_owe T) (hr.mono (by decide)) (by rfl) T.g__law_owe T.F__law_owe.kp T.b__law_owe .nil pass0 (pa_cons (pv 2) (pa_cons (pv 4) pa_nil)))))))))) pss_nil)) (pss_one (ps_expr (pe_meth0 (pv 0) T.K_WorkQueue T.m_WorkQueue_tick (ok_WorkQueue_tick T) (hr.mono (by decide)) T.b_WorkQueue_tick .nil pass0))))))))))
      (pss_one (ps_ret pe_bl))))), ?_⟩
    refine ⟨_, rfl, _, _, rfl, rfl, ⟨by decide, by decide⟩, n / 8, rfl, fun z hz => ?_⟩
    refine ⟨_, rfl, .inl ⟨_, rfl, _, _, rfl, rfl, (by show (0 : Int) < _; decide), ?_⟩⟩
    dsimp only
    generalize n % 8 = dd
    -- what follows where the queue went on by q', and z is owed
    have owes : ∀ (G : Hp) (q' : WQ) (wk' : List Str), W45 T.a_WorkQueue G most a lw lo q' wk' od → Inv45 q' wk' (owe od z) → FrW a lw lo H G → od.length ≤ 12 → (z ∈ od → Q (.bl true) G) ∧ (z ∉ od → Q (.bl true) (upd G lo (.lst ((od ++ [z]).map V.str)))) := fun G q' wk' h1 h2 f _ => by
      unfold owe at h2
      refine ⟨fun hm => c G a.tt q' wk' od h1 (by rw [if_pos hm] at h2; exact h2) f, fun hm => c _ a.tt q' wk' (od ++ [z]) (h1.setO _) (by rw [if_neg hm] at h2; exact h2) (f.up (by simp))⟩
    have ol := (od_len hV.W hI).2
    refine ⟨_, rfl, (by show 2 ≤ sizeLine; decide), fun t1 h1 => ⟨t1, _, rfl, .inr (sqt upd_same), rfl, rfl, _, rfl, ?_⟩⟩
    have s1 := same_upd (o := .tup [.int 0, .int 1]) h1
    have hV1 := hV.same s1
    have f1 : FrW a lw lo H (upd H t1 (.tup [.int 0, .int 1])) := Fr.of_same s1
    dsimp only
    generalize upd H t1 (.tup [.int 0, .int 1]) = H1 at hV1 f1
    refine ifb2 (fun _ => ?_) (fun _ => ?_)
    · -- add
      obtain ⟨dx, ob⟩ := hV1.W.ob
      refine ⟨_, rfl, a.p, dx, _, rfl, ob, fl_WorkQueue_no_add, _, rfl, U45, a, most, q, z, rfl, hV1.W, hz, fun H2 hW2 fr2 => ?_⟩
      have hV2 : W45 T.a_WorkQueue H2 most a lw lo (q.add z) wk od := hV1.queue (d := a.tt) hW2 fr2
      have f2 : FrW a lw lo H H2 := f1.trans (fr2.more (by intro x hx; simp [hx]))
      obtain ⟨o1, o2⟩ := owes H2 _ _ hV2 (inv_owe hI) f2 ol
      exact ⟨_, rfl, _, rfl, lo, od, z, rfl, hV2.ho, ol, o1, o2⟩
    · refine ⟨_, rfl, rfl, _, rfl, ifd (fun _ => ?_) (fun _ => ?_)⟩
      · -- add later
        obtain ⟨dx, ob⟩ := hV1.W.ob
        have b0 := Int.emod_nonneg (n / 96) (show (10 : Int) ≠ 0 by decide)
        have b1 := Int.emod_lt_of_pos (n / 96) (show (0 : Int) < 10 by decide)
        refine ⟨_, rfl, a.p, dx, _, rfl, ob, fl_WorkQueue_no_add_later, _, rfl, _, rfl, _, _, rfl, rfl, ⟨by decide, by decide⟩, .inl ⟨_, rfl, _, _, rfl, rfl, (by show (0 : Int) < _; decide), _, _, rfl, rfl, .inr ⟨by decide, by decide⟩, U45, a, most, q, z, n / 96 % 10 * 3, rfl, hV1.W, hz, fun H2 hW2 fr2 => ?_⟩⟩
        have hV2 : W45 T.a_WorkQueue H2 most a lw lo (q.later z (n / 96 % 10 * 3)) wk od := hV1.queue (d := a.tt) hW2 fr2
        have f2 : FrW a lw lo H H2 := f1.trans (fr2.more (by intro x hx; simp [hx]))
        obtain ⟨o1, o2⟩ := owes H2 _ _ hV2 (inv_late hI (by omega) (by omega)) f2 ol
        exact ⟨_, rfl, _, rfl, lo, od, z, rfl, hV2.ho, ol, o1, o2⟩
      · refine ⟨_, rfl, (by show 2 ≤ sizeLine; decide), fun t2 h2 => ⟨t2, _, rfl, .inr (sqt upd_same), rfl, rfl, _, rfl, ?_⟩⟩
        have s2 := same_upd (o := .tup [.int 3, .int 4]) h2
        have hV2 := hV1.same s2
        have f2 : FrW a lw lo H (upd H1 t2 (.tup [.int 3, .int 4])) := f1.trans (Fr.of_same s2)
        dsimp only
        generalize upd H1 t2 (.tup [.int 3, .int 4]) = H2 at hV2 f2
        refine ifb2 (fun _ => ?_) (fun _ => ?_)
        · -- take
          refine ⟨_, rfl, _, rfl, _, rfl, a, lw, lo, most, q, wk, od, rfl, hV2, (od_len hV.W hI).1, ?_⟩
          cases e : q.w with
          | nil => exact .inl ⟨rfl, c H2 a.tt q wk od hV2 hI f2⟩
          | cons k r =>
            obtain ⟨i1, i2, i3⟩ := inv_take hI e hV.W.wn
            exact .inr ⟨k, r, rfl, i1, i2, fun H3 hV3 f3 => c H3 a.tt _ _ _ hV3 i3 (f2.trans f3)⟩
        · refine ⟨_, rfl, (by show 2 ≤ sizeLine; decide), fun t3 h3 => ⟨t3, _, rfl, .inr (sqt upd_same), rfl, rfl, _, rfl, ?_⟩⟩
          have s3 := same_upd (o := .tup [.int 5, .int 6]) h3
          have hV3 := hV2.same s3
          have f3 : FrW a lw lo H (upd H2 t3 (.tup [.int 5, .int 6])) := f2.trans (Fr.of_same s3)
          dsimp only
          generalize upd H2 t3 (.tup [.int 5, .int 6]) = H3 at hV3 f3
          refine ifb2 (fun _ => ?_) (fun _ => ?_)
          · -- finish, fail
            refine ⟨_, rfl, _, .inl ⟨_, sql hV3.hl, rfl⟩, ?_⟩
            cases hwk : wk with
            | nil => subst hwk; exact c H3 a.tt q [] od hV3 hI f3
            | cons k0 r0 =>
              rw [← hwk]
              have hpos : 0 < wk.length := by rw [hwk]; simp
              refine ifbt (by rw [hwk]; rfl) ?_
              have l12 := (od_len hV.W hI).1
              refine ⟨_, rfl, _, _, rfl, rfl, ⟨by decide, by decide⟩, .inl ⟨_, rfl, _, _, rfl, rfl, (by show (0 : Int) < _; decide), _, rfl, lw, _, rfl, .inl (sql hV3.hl), _, _, rfl, rfl, _, _, rfl, rfl, .inl ⟨?_, ?_⟩, ?_⟩⟩
              · have := Int.emod_nonneg (n / 8) (show (2 : Int) ≠ 0 by decide); omega
              · have := Int.emod_lt_of_pos (n / 8) (show (0 : Int) < 2 by decide); omega
              have b0 := Int.emod_nonneg (n / 8) (show (2 : Int) ≠ 0 by decide)
              have b1 := Int.emod_lt_of_pos (n / 8) (show (0 : Int) < 2 by decide)
              obtain ⟨j, hj, ej⟩ : ∃ j : Nat, j < wk.length ∧ n / 8 % 2 * (((wk.map V.str).length : Int) - 1) = (j : Int) := by
                rw [List.length_map]
                have : n / 8 % 2 = 0 ∨ n / 8 % 2 = 1 := by omega
                rcases this with e | e
                · exact ⟨0, hpos, by rw [e]; simp⟩
                · exact ⟨wk.length - 1, by omega, by rw [e]; omega⟩
              have hg : wk[j]? = some wk[j] := List.getElem?_eq_getElem hj
              generalize wk[j] = k at hg
              obtain ⟨e1, e2⟩ := mem_eraseIdx hI.n3 hg
              obtain ⟨b, hb⟩ := Option.isSome_iff_exists.mp ((hI.a3 k).mp (List.mem_of_getElem? hg))
              refine ⟨_, rfl, .inl ⟨rfl, _, sql hV3.hl⟩, _, rfl, lw, _, _, j, .str k, rfl, rfl, hV3.hl, by rw [ej]; omega, by rw [ej]; omega, (ixN_seq (ixn ej (by rw [List.length_map]; exact hj))).1, by rw [List.getElem?_map, hg]; rfl, ?_⟩
              have hV4 := hV3.setL (wk.eraseIdx j)
              have f4 : FrW a lw lo H (upd H3 lw (.lst ((wk.eraseIdx j).map V.str))) := f3.up (by simp)
              rw [erase_str]
              generalize upd H3 lw (.lst ((wk.eraseIdx j).map V.str)) = H4 at hV4 f4
              obtain ⟨dx, ob⟩ := hV4.W.ob
              refine ⟨_, rfl, rfl, _, rfl, ifd (fun _ => ?_) (fun _ => ?_)⟩
              · refine ⟨_, rfl, a.p, dx, _, rfl, ob, fl_WorkQueue_no_finish, _, rfl, U45, a, most, q, k, b, rfl, hV4.W, hb, fun H5 hW5 fr5 => ?_⟩
                have hV5 : W45 T.a_WorkQueue H5 most a lw lo (q.fin k) (wk.eraseIdx j) od := hV4.queue (d := a.tt) hW5 fr5
                exact c H5 a.tt _ _ _ hV5 (inv_fin hI hb e1 e2) (f4.trans (fr5.more (by intro x hx; simp [hx])))
              · refine ⟨_, rfl, a.p, dx, _, rfl, ob, fl_WorkQueue_no_fail, _, rfl, U45, a, most, q, k, b, rfl, hV4.W, hb, hI.a5, m1, m2, fun H5 hW5 fr5 => ?_⟩
                have hV5 : W45 T.a_WorkQueue H5 most a lw lo (q.bad most k) (wk.eraseIdx j) od := hV4.queue (d := a.tt) hW5 fr5
                have f5 : FrW a lw lo H H5 := f4.trans (fr5.more (by intro x hx; simp [hx]))
                have hI5 := inv_bad hI hb e1 e2 m1 m2
                unfold owe at hI5
                refine ⟨_, rfl, _, rfl, lo, od, k, rfl, hV5.ho, ol, fun hm => ?_, fun hm => ?_⟩
                · rw [if_pos hm] at hI5
                  exact c H5 a.tt _ _ _ hV5 hI5 f5
                · rw [if_neg hm] at hI5
                  exact c _ a.tt _ _ _ (hV5.setO _) hI5 (f5.up (by simp))
          · -- tick
            obtain ⟨dx, ob⟩ := hV3.W.ob
            refine ⟨_, rfl, a.p, dx, _, rfl, ob, fl_WorkQueue_no_tick, U45, a, most, q, rfl, hV3.W, fun ys d H4 hy hd hW4 fr4 => ?_⟩
            exact c H4 d _ _ _ (hV3.queue hW4 fr4) (inv_pass hI hy) (f3.trans (fr4.more (by intro x hx; simp [hx])))
end
def sp_ldrain (C : Addr) : Sp := fun vs H Q _ => ∃ (a : WP) (lo lw : Addr) (most : Int) (q : WQ) (wl od : List Str), vs = [.ref a.p, .ref lo] ∧ W45 C H most a lw lo q wl od ∧ Inv45 q [] od ∧
  ∀ H' d q', W45 C H' most { a with tt := d } lw lo q' wl [] → Inv45 q' [] [] → q'.w = [] → (∀ x, q'.wk x = none) → (∀ x, q'.tk x = none) → Q (.bl true) H'
def sp_law (K : PySem.W.Frag) : Sp := fun vs H Q _ => ∃ (a : Addr) (ns : List Int), vs = [.ref a] ∧ SqL K H a (ns.map V.int) ∧ ns.length ≤ 63 ∧ ∀ H', Q (.bl true) H'
theorem ord_one {f : Str → Bool} {ys : List Str} {k : Str} (h : Ord f ys) (hk : ∀ s, f s = true ↔ s = k) : ys = [k] := by
  have hm : k ∈ ys := (h.2.2 k).mpr ((hk k).mpr rfl)
  cases ys with
  | nil => cases hm
  | cons y r =>
    have e1 : y = k := (hk y).mp ((h.2.2 y).mp List.mem_cons_self)
    cases r with
    | nil => rw [e1]
    | cons z r =>
      have e2 : z = k := (hk z).mp ((h.2.2 z).mp (by simp))
      have := h.1
      rw [e1, e2] at this
      simp at this
theorem ord_nil {f : Str → Bool} {ys : List Str} (h : Ord f ys) (hk : ∀ s, f s = false) : ys = [] := by
  cases ys with
  | nil => rfl
  | cons y r =>
    have := (h.2.2 y).mp List.mem_cons_self
    rw [hk y] at this
    cases this
theorem wk_none {q : WQ} {od : List Str} (h : Inv45 q [] od) (x : Str) : q.wk x = none := by
  cases e : q.wk x with
  | none => rfl
  | some b => exact absurd ((h.a3 x).mpr (by rw [e]; rfl)) (by simp)
section
variable {P : Program} {w : World} {K : PySem.W.Frag} {mg : Str → Option Value} {base : Heap}
/-- where the draining stands: k rounds done, j takes of this round -/
structure DrI (C : Addr) (H : Hp) (most : Int) (a : WP) (lw lo : Addr) (q : WQ) (wl od : List Str) (k j : Nat) : Prop where
  V : W45 C H most a lw lo q wl od
  I : Inv45 q [] od
  t : ∀ x t, q.tk x = some t → t + k ≤ 64
  l : q.w.length + j ≤ 12 ∨ q.w = []
  e : k = 65 → q.w = []
theorem ok__law_drain (T : TX K mg) : FnOk P w K mg base CX0 3 T.a__law_drain T.d__law_drain ["queue", "owed"] (sp_ldrain T.a_WorkQueue) := by
  refine T.F__law_drain.ok sc__law_drain (fun vs H Q E h => ?_) (fun cdv A outer s H vs Q E hr h => ?_)
  · obtain ⟨a, lo, lw, most, q, wl, od, rfl, _⟩ := h
    rfl
  · obtain ⟨a, lo, lw, most, q, wl, od, rfl, hV, hI, c⟩ := h
    refine ⟨_, (pss_cons (ps_for PassesOwn.never rfl (pi_range1 (by rfl) T.n_range (pa_cons pe_int pa_nil)) (pg_name (i := 2) sc__law_drain.nd rfl (Or.inl rfl))
        (pss_cons (ps_for PassesOwn.never rfl (pi_range1 (by rfl) T.n_range (pa_cons pe_int pa_nil)) (pg_name (i := 3) sc__law_drain.nd rfl (Or.inl rfl))
          (pss_cons (ps_if (pt_not (pt_val (pe_call (ok__law_take T) (hr.mono (by decide)) (by rfl) T.g__law_take T.F__law_take.kp T.b__law_take .nil pass0 (pa_cons (pv 0) (pa_cons (pe_lst pa_nil) (pa_cons (pv 1) pa_nil)))))) (pss_one (ps_ret pe_bl)) pss_nil)
          (pss_one (ps_if (pt_truth (pe_meth0 (pv 0) T.K_WorkQueue T.m_WorkQueue_in_work (ok_WorkQueue_in_work T) (hr.mono (by decide)) T.b_WorkQueue_in_work .nil pass0) (by intro _; rfl)) (pss_one (ps_expr (pe_meth (pv 0) T.K_WorkQueue T.m_WorkQueue_finish (ok_WorkQueue_finish T) (hr.mono (by decide)) T.b_WorkQueue_finish .nil pass0 (pa_cons (pe_ix ix_list (pe_meth0 (pv 0) T.K_WorkQueue T.m_WorkQueue_in_work (ok_WorkQueue_in_work T) (hr.mono (by decide)) T.b_WorkQueue_in_work .nil pass0) pe_int (fun _ _ => rfl)) pa_nil)))) pss_nil))))
        (pss_one (ps_expr (pe_meth0 (pv 0) T.K_WorkQueue T.m_WorkQueue_tick (ok_WorkQueue_tick T) (hr.mono (by decide)) T.b_WorkQueue_tick .nil pass0)))))
      (pss_one (ps_ret pe_bl))), ?_⟩
    have u : U45.length = 12 := by decide +kernel
    have w12 : ∀ {G : Hp} {a' : WP} {q' : WQ}, WQAt U45 T.a_WorkQueue G most a' q' → q'.w.length ≤ 12 := fun h => by rw [← u]; exact nd_len h.wn h.wU
    refine ⟨65, rfl, by decide, by decide, for_range (lo := 0) (n := 65) (fun k σ G => ∃ (d : Addr) (q' : WQ) (od' : List Str) (x2 x3 : Option V), σ = [some (.ref a.p), some (.ref lo), x2, x3] ∧ DrI T.a_WorkQueue G most { a with tt := d } lw lo q' wl od' k 0)
      ⟨a.tt, q, od, none, none, rfl, hV, hI, fun x t h => by have := hI.a2 x t h; omega, .inl (w12 hV.W), fun h => by omega⟩ ?_ ?_⟩
    · rintro k σ G hk ⟨d, q', od', x2, x3, rfl, hD⟩
      refine ⟨13, rfl, by decide, by decide, for_range (lo := 0) (n := 13) (fun j σ G => ∃ (q' : WQ) (od' : List Str) (x3 : Option V), σ = [some (.ref a.p), some (.ref lo), some (.int (0 + (k : Int))), x3] ∧ DrI T.a_WorkQueue G most { a with tt := d } lw lo q' wl od' k j)
        ⟨q', od', x3, rfl, hD⟩ ?_ ?_⟩
      · rintro j σ G hj ⟨q', od', x3, rfl, hD⟩
        refine ⟨_, rfl, (by show 0 ≤ sizeLine; decide), fun t ht => ?_⟩
        have s1 := same_upd (o := .lst []) ht
        have hV1 := hD.V.same s1
        have et : upd G t (.lst []) t = some (.lst []) := upd_same
        have ntl : t ≠ lo := fun z => by rw [z, hD.V.ho] at ht; cases ht
        have nta : t ≠ a.aw := fun z => by rw [z, hD.V.W.hw] at ht; cases ht
        have ntw : t ≠ lw := fun z => by rw [z, hD.V.hl] at ht; cases ht
        generalize upd G t (.lst []) = G1 at hV1 et s1
        have hV2 : W45 T.a_WorkQueue G1 most { a with tt := d } t lo q' [] od' := ⟨hV1.W, et, hV1.ho, nta, hV1.n2, ntl⟩
        refine ⟨_, rfl, { a with tt := d }, t, lo, most, q', [], od', rfl, hV2, by decide, ?_⟩
        cases e : q'.w with
        | nil =>
          refine .inl ⟨rfl, _, rfl, ifbf rfl ?_⟩
          obtain ⟨dx, ob⟩ := hV1.W.ob
          refine ⟨_, rfl, a.p, dx, _, rfl, ob, fl_WorkQueue_no_in_work, U45, { a with tt := d }, most, q', rfl, hV1.W, fun ys p G2 hy hp s2 ep => ?_⟩
          have hys := ord_nil hy fun s => by rw [wk_none hD.I]; rfl
          subst hys
          refine ⟨_, .inl ⟨_, sql ep, rfl⟩, ?_⟩
          exact ⟨q', od', _, rfl, hV1.same s2, hD.I, hD.t, .inr e, hD.e⟩
        | cons z r =>
          obtain ⟨i1, i2, i3⟩ := inv_take hD.I e hV1.W.wn
          refine .inr ⟨z, r, rfl, i1, i2, fun G2 hV3 f3 => ⟨_, rfl, ifbf rfl ?_⟩⟩
          have hzU : z ∈ U45 := hV1.W.wU z (by rw [e]; exact List.mem_cons_self)
          obtain ⟨dx, ob⟩ := hV3.W.ob
          have hwl : G2 lw = some (.lst (wl.map V.str)) := f3 lw _ hV1.hl (by
            have h1 := not_in hV1.W hV1.hl hV1.n1
            simp only [List.mem_cons, not_or]
            exact ⟨ntw.symm, hV1.n3, h1⟩)
          have one : ∀ s, ((setF q'.wk z false) s).isSome = true ↔ s = z := fun s => by
            by_cases es : s = z
            · rw [es, setF_same]; simp
            · rw [setF_ne es, wk_none hD.I]; simp [es]
          refine ⟨_, rfl, a.p, dx, _, rfl, ob, fl_WorkQueue_no_in_work, U45, { a with tt := d }, most, _, rfl, hV3.W, fun ys p G3 hy hp s2 ep => ?_⟩
          have hys := ord_one hy one
          subst hys
          refine ⟨_, .inl ⟨_, sql ep, rfl⟩, ?_⟩
          have hV4 := hV3.same s2
          refine ⟨_, rfl, a.p, dx, _, rfl, s2 _ _ ob, fl_WorkQueue_no_finish, _, rfl, a.p, dx, _, rfl, s2 _ _ ob, fl_WorkQueue_no_in_work, U45, { a with tt := d }, most, _, rfl, hV4.W, fun ys2 p2 G4 hy2 hp2 s4 ep2 => ?_⟩
          have hys2 := ord_one hy2 one
          subst hys2
          have hV5 := hV4.same s4
          refine ⟨p2, _, 0, .str z, rfl, rfl, sql ep2, rfl, U45, { a with tt := d }, most, _, z, false, rfl, hV5.W, setF_same _ _ _, fun G5 hW5 fr5 => ?_⟩
          have hI5 := inv_fin (wk' := []) i3 (setF_same _ _ _) (fun x => by simp) List.nodup_nil
          have hV6 := hV5.queue (d := d) hW5 fr5
          have hl5 : G5 lw = some (.lst (wl.map V.str)) := fr5 lw _ (s4 _ _ (s2 _ _ hwl)) (not_in hV5.W (s4 _ _ (s2 _ _ hwl)) hV1.n1)
          have ef : (({ q' with w := r, wk := setF q'.wk z false } : WQ).fin z) = { ({ q' with w := r, wk := setF q'.wk z false } : WQ).left z with fl := unsF q'.fl z } := by
            unfold WQ.fin
            rw [if_neg (by show ¬ setF q'.wk z false z = some true; rw [setF_same]; simp)]
          refine ⟨_, od'.erase z, _, rfl, ⟨hV6.W, hl5, hV6.ho, hV1.n1, hV1.n2, hV1.n3⟩, hI5, ?_, ?_, ?_⟩
          · rw [ef]
            exact hD.t
          · rw [ef]
            left
            show r.length + (j + 1) ≤ 12
            have := hD.l
            rw [e] at this
            rcases this with h | h
            · simp only [List.length_cons] at h; omega
            · cases h
          · intro h
            omega
      · rintro σ G ⟨q', od', x3, rfl, hD⟩
        have hw0 : q'.w = [] := by
          rcases hD.l with h | h
          · omega
          · exact h
        obtain ⟨dx, ob⟩ := hD.V.W.ob
        refine ⟨_, rfl, a.p, dx, _, rfl, ob, fl_WorkQueue_no_tick, U45, { a with tt := d }, most, q', rfl, hD.V.W, fun ys d2 G2 hy hd hW2 fr2 => ?_⟩
        have hV2 := hD.V.queue hW2 fr2
        refine ⟨d2, _, od', _, _, rfl, hV2, inv_pass hD.I hy, fun x t ht => ?_, .inl (w12 hV2.W), fun h => ?_⟩
        · rw [pass_tk] at ht
          split at ht
          · cases ht
          · cases e : q'.tk x with
            | none => rw [e] at ht; cases ht
            | some u =>
              rw [e] at ht
              have h1 : u - 1 = t := Option.some.inj ht
              have := hD.t x u e
              omega
        · have hys : ys = [] := ord_nil hy fun s => by
            cases e : q'.tk s with
            | none => rfl
            | some u =>
              have h1 := hD.t s u e
              have h2 := hD.I.a2 s u e
              omega
          rw [hys]
          exact hw0
    · rintro σ G ⟨d, q', od', x2, x3, rfl, hD⟩
      have hw := hD.e rfl
      have hk := wk_none hD.I
      have ht : ∀ x, q'.tk x = none := fun x => by
        cases e : q'.tk x with
        | none => rfl
        | some u =>
          have h1 := hD.t x u e
          have h2 := hD.I.a2 x u e
          omega
      have ho : od' = [] := by
        cases od' with
        | nil => rfl
        | cons y r =>
          have := (hD.I.a4 y).mp List.mem_cons_self
          rw [hw, hk, ht] at this
          simp at this
      subst ho
      exact c G d q' hD.V hD.I hw hk ht
end
theorem same_new {H H' : Hp} {p dx : Addr} {o u : HO} (hp : H p = none) (hd : H dx = none) (f : Fr [p] (upd (upd H dx o) p u) H') : Same H H' := fun x v hx => by
  have n1 : x ≠ p := ne_of_none hx hp
  refine f x v ?_ (by simp [n1])
  rw [upd_ne n1, upd_ne (ne_of_none hx hd)]
  exact hx
section
variable {P : Program} {w : World} {K : PySem.W.Frag} {mg : Str → Option Value} {base : Heap}
theorem ok_law (T : TX K mg) : FnOk P w K mg base CX0 5 T.a_law T.d_law ["script"] (sp_law K) := by
  refine T.F_law.ok sc_law (fun vs H Q E h => ?_) (fun cdv A outer s H vs Q E hr h => ?_)
  · obtain ⟨a, ns, rfl, _⟩ := h
    rfl
  · obtain ⟨A0, ns, rfl, hS, hns, q⟩ := h
    refine ⟨_, (pss_cons (ps_set (i := 1) sc_law.nd rfl (Or.inl rfl) (pe_makeK0 T.M_WorkQueue (ok_WorkQueue___init__ T) (hr.mono (by decide)) (by rfl) T.g_WorkQueue T.kb_WorkQueue___init__.choose_spec pass0 (pk_cons pe_int pk_nil)))
      (C8.pss_cut (ps_if (pt_truth (pv 0) (by intro _; rfl)) (pss_one (ps_set (i := 1) sc_law.nd rfl (Or.inl rfl) (pe_makeK0 T.M_WorkQueue (ok_WorkQueue___init__ T) (hr.mono (by decide)) (by rfl) T.g_WorkQueue T.kb_WorkQueue___init__.choose_spec pass0 (pk_cons (pe_op op_add pe_int (pe_op op_mod (pe_callTy call_int1 (by rfl) T.n_int (by decide +kernel) (pa_cons (pe_ix ix_list (pv 0) pe_int (fun _ _ => rfl)) pa_nil)) pe_int)) pk_nil)))) pss_nil)
      (pss_cons (ps_set (i := 2) sc_law.nd rfl (Or.inl rfl) (pe_lst pa_nil))
      (pss_cons (ps_set (i := 3) sc_law.nd rfl (Or.inl rfl) (pe_lst pa_nil))
      (pss_cons (ps_for PassesOwn.never rfl (pi_list (pe_call (ok__law_row T) (hr.mono (by decide)) (by rfl) T.g__law_row T.F__law_row.kp T.b__law_row .nil pass0 (pa_cons (pv 0) (pa_cons pe_int pa_nil)))) (pg_name (i := 4) sc_law.nd rfl (Or.inl rfl))
        (pss_one (ps_if (pt_not (pt_val (pe_call (ok__law_deed T) (hr.mono (by decide)) (by rfl) T.g__law_deed T.F__law_deed.kp T.b__law_deed .nil pass0 (pa_cons (pv 1) (pa_cons (pv 2) (pa_cons (pv 3) (pa_cons (pv 4) pa_nil))))))) (pss_one (ps_ret pe_bl)) pss_nil)))
      (pss_cons (ps_for PassesOwn.never rfl (pi_list (pv 2)) (pg_name (i := 5) sc_law.nd rfl (Or.inl rfl))
        (pss_one (ps_expr (pe_meth (pv 1) T.K_WorkQueue T.m_WorkQueue_finish (ok_WorkQueue_finish T) (hr.mono (by decide)) T.b_WorkQueue_finish .nil pass0 (pa_cons (pv 5) pa_nil)))))
      (pss_cons (ps_if (pt_not (pt_val (pe_call (ok__law_drain T) (hr.mono (by decide)) (by rfl) T.g__law_drain T.F__law_drain.kp T.b__law_drain .nil pass0 (pa_cons (pv 1) (pa_cons (pv 3) pa_nil))))) (pss_one (ps_ret pe_bl)) pss_nil)
      (pss_one (ps_ret (pe_and (pe_cmpR (op_eqD hr.units) (pv 3) (pe_lst pa_nil) (nomark _)) (pe_and (pe_cmpR (op_eqD hr.units) (pe_meth0 (pv 1) T.K_WorkQueue T.m_WorkQueue_waiting (ok_WorkQueue_waiting T) (hr.mono (by decide)) T.b_WorkQueue_waiting .nil pass0) (pe_lst pa_nil) (nomark _)) (pe_and (pe_cmpR (op_eqD hr.units) (pe_meth0 (pv 1) T.K_WorkQueue T.m_WorkQueue_in_work (ok_WorkQueue_in_work T) (hr.mono (by decide)) T.b_WorkQueue_in_work .nil pass0) (pe_lst pa_nil) (nomark _)) (pe_and (pe_cmpR (op_eqD hr.units) (pe_meth0 (pv 1) T.K_WorkQueue T.m_WorkQueue_delayed (ok_WorkQueue_delayed T) (hr.mono (by decide)) T.b_WorkQueue_delayed .nil pass0) (pe_lst pa_nil) (nomark _)) (pe_one (pe_cmpR op_isN (pe_meth0 (pv 1) T.K_WorkQueue T.m_WorkQueue_take (ok_WorkQueue_take T) (hr.mono (by decide)) T.b_WorkQueue_take .nil pass0) pe_non (nomark _)))))))))))))))), ?_⟩
    have u : U45.length ≤ 12 := by decide +kernel
    refine ⟨rfl, rfl, fun p dx hp hdx npdx => ⟨p, dx, 64, rfl, upd_same, fun a H1 ea n1 n2 n3 n4 hW f1 => ⟨rfl, ?_⟩⟩⟩
    have s1 := same_new hp hdx f1
    subst ea
    refine ⟨fun σ' G => ∃ (a : WP) (most : Int), σ' = [some (.ref A0), some (.ref a.p), none, none, none, none] ∧ 1 ≤ most ∧ most ≤ 64 ∧ WQAt U45 T.a_WorkQueue G most a ⟨[], fun _ => none, fun _ => none, fun _ => none⟩ ∧ Same H G, ?_, ?_⟩
    · refine ⟨_, rfl, _, .inl ⟨_, s1.seq hS, rfl⟩, ?_⟩
      cases ns with
      | nil => exact ⟨a, 64, rfl, by decide, by decide, hW _ u, s1⟩
      | cons c r =>
        have b0 := Int.emod_nonneg c (show (64 : Int) ≠ 0 by decide)
        have b1 := Int.emod_lt_of_pos c (show (0 : Int) < 64 by decide)
        refine ⟨_, rfl, A0, _, 0, .int c, rfl, rfl, s1.seq hS, at_map (i := 0) rfl, .inl ⟨_, rfl, _, _, rfl, rfl, (by show (0 : Int) < _; decide), _, _, rfl, rfl, rfl, rfl, fun p2 dx2 hp2 hdx2 npdx2 => ⟨p2, dx2, 1 + c % 64, rfl, upd_same, fun a2 H2 ea2 _ _ _ _ hW2 f2 => ⟨rfl, ?_⟩⟩⟩⟩
        subst ea2
        exact ⟨a2, 1 + c % 64, rfl, by omega, by omega, hW2 _ u, s1.trans (same_new hp2 hdx2 f2)⟩
    rintro σ' G ⟨a, most, rfl, m1, m2, hW, s2⟩
    clear hp hdx npdx f1 s1 n1 n2 n3 n4
    refine ⟨Nat.zero_le _, fun lw hlw => ⟨Nat.zero_le _, fun lo hlo => ?_⟩⟩
    have t1 := same_upd (o := .lst []) hlw
    have t2 := same_upd (o := .lst []) hlo
    have nwo : lw ≠ lo := fun z => by rw [← z, upd_same] at hlo; cases hlo
    have naw : lw ≠ a.aw := fun z => by rw [z, hW.hw] at hlw; cases hlw
    have nao : lo ≠ a.aw := fun z => by rw [z, t1 _ _ hW.hw] at hlo; cases hlo
    have hV : W45 T.a_WorkQueue (upd (upd G lw (.lst [])) lo (.lst [])) most a lw lo ⟨[], fun _ => none, fun _ => none, fun _ => none⟩ [] [] :=
      ⟨(hW.same t1).same t2, t2 _ _ upd_same, upd_same, naw, nao, nwo⟩
    have s3 := (s2.trans t1).trans t2
    generalize upd (upd G lw (.lst [])) lo (.lst []) = G1 at hV s3
    have hI : Inv45 ⟨[], fun _ => none, fun _ => none, fun _ => none⟩ [] [] := ⟨(fun _ h => by cases h), (fun _ _ h => by cases h), (fun _ => by simp), List.nodup_nil, (fun _ => by simp), List.nodup_nil, (fun _ _ h => by cases h)⟩
    refine ⟨_, rfl, A0, ns, 200, rfl, s3.seq hS, hns, by decide, by decide, fun r G2 ds hr s4 er hD hl => ?_⟩
    have hV2 := hV.same s4
    have nr1 : r ≠ lw := fun z => by rw [z, hV.hl] at hr; cases hr
    have nr2 : r ≠ lo := fun z => by rw [z, hV.ho] at hr; cases hr
    have nr3 : r ≠ a.aw := fun z => by rw [z, hV.W.hw] at hr; cases hr
    refine ⟨r, rfl, ⟨_, sql er⟩, for_list (K := K) (a := r) (xs := ds.map V.int) (fun i σ G => ∃ (d : Addr) (q' : WQ) (wk od : List Str) (x4 x5 : Option V), σ = [some (.ref A0), some (.ref a.p), some (.ref lw), some (.ref lo), x4, x5] ∧ W45 T.a_WorkQueue G most { a with tt := d } lw lo q' wk od ∧ Inv45 q' wk od ∧ G r = some (.lst (ds.map V.int)))
      ⟨a.tt, _, [], [], none, none, rfl, hV2, hI, er⟩ (fun i σ G _ ⟨_, _, _, _, _, _, _, _, _, e⟩ => sql e) ?_ ?_⟩
    · rintro i x σ G hx ⟨d, q', wk, od, x4, x5, rfl, hV, hI, e⟩
      obtain ⟨n, hn, rfl⟩ := map_at hx
      refine ⟨_, rfl, _, rfl, _, rfl, _, rfl, { a with tt := d }, lw, lo, most, q', wk, od, n, rfl, hV, hI, m1, m2, fun G3 d2 q2 wk2 od2 hV3 hI3 f3 => ⟨_, rfl, ifbf rfl ?_⟩⟩
      refine ⟨d2, q2, wk2, od2, _, _, rfl, hV3, hI3, f3 r _ e ?_⟩
      have := not_in hV.W e nr3
      simp only [List.mem_cons, not_or]
      exact ⟨nr1, nr2, this⟩
    rintro σ G3 ⟨d, q', wk, od, x4, x5, rfl, hV3, hI3, _⟩
    -- finish what is in work
    refine ⟨_, rfl, lw, rfl, ⟨_, sql hV3.hl⟩, for_list (K := K) (a := lw) (xs := wk.map V.str) (fun i σ G => ∃ (q2 : WQ) (x4 x5 : Option V), σ = [some (.ref A0), some (.ref a.p), some (.ref lw), some (.ref lo), x4, x5] ∧ W45 T.a_WorkQueue G most { a with tt := d } lw lo q2 wk od ∧ Inv45 q2 (wk.drop i) od)
      ⟨q', x4, x5, rfl, hV3, hI3⟩ (fun i σ G _ ⟨_, _, _, _, h, _⟩ => sql h.hl) ?_ ?_⟩
    · rintro i x σ G hx ⟨q2, x4, x5, rfl, hV4, hI4⟩
      obtain ⟨z, hz, rfl⟩ := map_at hx
      have hd : wk.drop i = z :: wk.drop (i + 1) := by
        obtain ⟨hi, e⟩ := List.getElem?_eq_some_iff.mp hz
        rw [← e]
        exact List.drop_eq_getElem_cons hi
      rw [hd] at hI4
      have n2 := List.nodup_cons.mp hI4.n3
      obtain ⟨b, hb⟩ := Option.isSome_iff_exists.mp ((hI4.a3 z).mp List.mem_cons_self)
      obtain ⟨dx, ob⟩ := hV4.W.ob
      refine ⟨_, rfl, a.p, dx, _, rfl, ob, fl_WorkQueue_no_finish, _, rfl, U45, { a with tt := d }, most, q2, z, b, rfl, hV4.W, hb, fun G5 hW5 f5 => ?_⟩
      refine ⟨_, _, _, rfl, hV4.queue (d := d) hW5 f5, inv_fin hI4 hb (fun x => ?_) n2.2⟩
      constructor
      · intro h
        exact ⟨List.mem_cons_of_mem _ h, fun e => n2.1 (by rw [← e]; exact h)⟩
      · rintro ⟨h, g⟩
        exact (List.mem_cons.mp h).resolve_left g
    rintro σ G4 ⟨q2, x4, x5, rfl, hV4, hI4⟩
    rw [List.length_map, List.drop_length] at hI4
    -- drain
    refine ⟨_, rfl, _, rfl, { a with tt := d }, lo, lw, most, q2, wk, od, rfl, hV4, hI4, fun G5 d5 q5 hV5 hI5 e1 e2 e3 => ⟨_, rfl, ifbf rfl ?_⟩⟩
    obtain ⟨dx, ob⟩ := hV5.W.ob
    refine ⟨_, rfl, (by show 0 ≤ sizeLine; decide), fun t1 h1 => ⟨.list [], .list [], .lst (sql (same_upd h1 _ _ hV5.ho)) .nil, .lst (sql upd_same) .nil, rfl, rfl, _, rfl, ifbt rfl ?_⟩⟩
    have s5 := same_upd (o := .lst []) h1
    refine ⟨_, rfl, a.p, dx, _, rfl, s5 _ _ ob, fl_WorkQueue_no_waiting, U45, { a with tt := d5 }, most, q5, rfl, hV5.W.same s5, fun p G6 hp s6 e6 => ⟨(by show 0 ≤ sizeLine; decide), fun t2 h2 => ?_⟩⟩
    rw [e1] at e6
    refine ⟨.list [], .list [], .lst (sql (same_upd h2 _ _ e6)) .nil, .lst (sql upd_same) .nil, rfl, rfl, _, rfl, ifbt rfl ?_⟩
    have s7 := (s5.trans s6).trans (same_upd (o := .lst []) h2)
    refine ⟨_, rfl, a.p, dx, _, rfl, s7 _ _ ob, fl_WorkQueue_no_in_work, U45, { a with tt := d5 }, most, q5, rfl, hV5.W.same s7, fun ys p2 G8 hy hp2 s8 e8 => ⟨(by show 0 ≤ sizeLine; decide), fun t3 h3 => ?_⟩⟩
    have hys := ord_nil hy fun s => by rw [e2]; rfl
    rw [hys] at e8
    refine ⟨.list [], .list [], .lst (sql (same_upd h3 _ _ e8)) .nil, .lst (sql upd_same) .nil, rfl, rfl, _, rfl, ifbt rfl ?_⟩
    have s9 := (s7.trans s8).trans (same_upd (o := .lst []) h3)
    refine ⟨_, rfl, a.p, dx, _, rfl, s9 _ _ ob, fl_WorkQueue_no_delayed, U45, { a with tt := d5 }, most, q5, rfl, hV5.W.same s9, fun ys p3 G10 xs hy3 hp3 s10 e10 hd10 => ⟨(by show 0 ≤ sizeLine; decide), fun t4 h4 => ?_⟩⟩
    have hys3 := ord_nil hy3 fun s => by rw [e3]; rfl
    rw [hys3] at hd10
    have hxs : xs = [] := by cases hd10; rfl
    rw [hxs] at e10
    refine ⟨.list [], .list [], .lst (sql (same_upd h4 _ _ e10)) .nil, .lst (sql upd_same) .nil, rfl, rfl, _, rfl, ifbt rfl ?_⟩
    have s11 := (s9.trans s10).trans (same_upd (o := .lst []) h4)
    refine ⟨_, rfl, a.p, dx, _, rfl, s11 _ _ ob, fl_WorkQueue_no_take, U45, { a with tt := d5 }, most, q5, rfl, hV5.W.same s11, fun _ => ⟨rfl, ?_⟩, fun k r e => by rw [e1] at e; cases e⟩
    exact q _
end
theorem all_mk {l : PySem.W.OpenLaw} {w : World} {K : PySem.W.Frag} {h : Heap} {mg : Str → Option Value} {fa : Addr} (X : K.In h) (G : h.Ns mainGlobals mg) (hfa : mg "law" = some (.ref fa))
    {C_WorkQueue : Addr} {f_WorkQueue___init__ : Addr} {od_WorkQueue___init__ an_WorkQueue___init__ : Option Addr} {sl_WorkQueue___init__ : Array (Option Value)} {oc_WorkQueue___init__ dc_WorkQueue___init__ pm_WorkQueue___init__ cd_WorkQueue___init__ ct_WorkQueue___init__ : Value} {kD_WorkQueue___init__ : Addr} {kt_WorkQueue___init___most : Tok} {f_WorkQueue_add : Addr} {od_WorkQueue_add an_WorkQueue_add : Option Addr} {sl_WorkQueue_add : Array (Option Value)} {oc_WorkQueue_add kV_WorkQueue_add dc_WorkQueue_add pm_WorkQueue_add cd_WorkQueue_add ct_WorkQueue_add : Value} {f_WorkQueue_add_later : Addr} {od_WorkQueue_add_later an_WorkQueue_add_later : Option Addr} {sl_WorkQueue_add_later : Array (Option Value)} {oc_WorkQueue_add_later kV_WorkQueue_add_later dc_WorkQueue_add_later pm_WorkQueue_add_later cd_WorkQueue_add_later ct_WorkQueue_add_later : Value} {f_WorkQueue_tick : Addr} {od_WorkQueue_tick an_WorkQueue_tick : Option Addr} {sl_WorkQueue_tick : Array (Option Value)} {oc_WorkQueue_tick kV_WorkQueue_tick dc_WorkQueue_tick pm_WorkQueue_tick cd_WorkQueue_tick ct_WorkQueue_tick : Value} {f_WorkQueue_take : Addr} {od_WorkQueue_take an_WorkQueue_take : Option Addr} {sl_WorkQueue_take : Array (Option Value)} {oc_WorkQueue_take kV_WorkQueue_take dc_WorkQueue_take pm_WorkQueue_take cd_WorkQueue_take ct_WorkQueue_take : Value} {f_WorkQueue_finish : Addr} {od_WorkQueue_finish an_WorkQueue_finish : Option Addr} {sl_WorkQueue_finish : Array (Option Value)} {oc_WorkQueue_finish kV_WorkQueue_finish dc_WorkQueue_finish pm_WorkQueue_finish cd_WorkQueue_finish ct_WorkQueue_finish : Value} {f_WorkQueue_fail : Addr} {od_WorkQueue_fail an_WorkQueue_fail : Option Addr} {sl_WorkQueue_fail : Array (Option Value)} {oc_WorkQueue_fail kV_WorkQueue_fail dc_WorkQueue_fail pm_WorkQueue_fail cd_WorkQueue_fail ct_WorkQueue_fail : Value} {f_WorkQueue__leave : Addr} {od_WorkQueue__leave an_WorkQueue__leave : Option Addr} {sl_WorkQueue__leave : Array (Option Value)} {oc_WorkQueue__leave kV_WorkQueue__leave dc_WorkQueue__leave pm_WorkQueue__leave cd_WorkQueue__leave ct_WorkQueue__leave : Value} {f_WorkQueue__delay : Addr} {od_WorkQueue__delay an_WorkQueue__delay : Option Addr} {sl_WorkQueue__delay : Array (Option Value)} {oc_WorkQueue__delay kV_WorkQueue__delay dc_WorkQueue__delay pm_WorkQueue__delay cd_WorkQueue__delay ct_WorkQueue__delay : Value} {f_WorkQueue_waiting : Addr} {od_WorkQueue_waiting an_WorkQueue_waiting : Option Addr} {sl_WorkQueue_waiting : Array (Option Value)} {oc_WorkQueue_waiting kV_WorkQueue_waiting dc_WorkQueue_waiting pm_WorkQueue_waiting cd_WorkQueue_waiting ct_WorkQueue_waiting : Value} {f_WorkQueue_in_work : Addr} {od_WorkQueue_in_work an_WorkQueue_in_work : Option Addr} {sl_WorkQueue_in_work : Array (Option Value)} {oc_WorkQueue_in_work kV_WorkQueue_in_work dc_WorkQueue_in_work pm_WorkQueue_in_work cd_WorkQueue_in_work ct_WorkQueue_in_work : Value} {f_WorkQueue_delayed : Addr} {od_WorkQueue_delayed an_WorkQueue_delayed : Option Addr} {sl_WorkQueue_delayed : Array (Option Value)} {oc_WorkQueue_delayed kV_WorkQueue_delayed dc_WorkQueue_delayed pm_WorkQueue_delayed cd_WorkQueue_delayed ct_WorkQueue_delayed : Value} {f_WorkQueue_failures : Addr} {od_WorkQueue_failures an_WorkQueue_failures : Option Addr} {sl_WorkQueue_failures : Array (Option Value)} {oc_WorkQueue_failures kV_WorkQueue_failures dc_WorkQueue_failures pm_WorkQueue_failures cd_WorkQueue_failures ct_WorkQueue_failures : Value} {f__law_mix : Addr} {od__law_mix an__law_mix : Option Addr} {sl__law_mix : Array (Option Value)} {oc__law_mix kV__law_mix dc__law_mix pm__law_mix cd__law_mix ct__law_mix : Value} {f__law_row : Addr} {od__law_row an__law_row : Option Addr} {sl__law_row : Array (Option Value)} {oc__law_row kV__law_row dc__law_row pm__law_row cd__law_row ct__law_row : Value} {f__law_key : Addr} {od__law_key an__law_key : Option Addr} {sl__law_key : Array (Option Value)} {oc__law_key kV__law_key dc__law_key pm__law_key cd__law_key ct__law_key : Value} {f__law_take : Addr} {od__law_take an__law_take : Option Addr} {sl__law_take : Array (Option Value)} {oc__law_take kV__law_take dc__law_take pm__law_take cd__law_take ct__law_take : Value} {f__law_owe : Addr} {od__law_owe an__law_owe : Option Addr} {sl__law_owe : Array (Option Value)} {oc__law_owe kV__law_owe dc__law_owe pm__law_owe cd__law_owe ct__law_owe : Value} {f__law_deed : Addr} {od__law_deed an__law_deed : Option Addr} {sl__law_deed : Array (Option Value)} {oc__law_deed kV__law_deed dc__law_deed pm__law_deed cd__law_deed ct__law_deed : Value} {f__law_drain : Addr} {od__law_drain an__law_drain : Option Addr} {sl__law_drain : Array (Option Value)} {oc__law_drain kV__law_drain dc__law_drain pm__law_drain cd__law_drain ct__law_drain : Value} {f_law : Addr} {od_law an_law : Option Addr} {sl_law : Array (Option Value)} {oc_law kV_law dc_law pm_law cd_law ct_law : Value}
    (gc_WorkQueue : PySem.W.nsIn K mainGlobals "WorkQueue" = some (some (.ref C_WorkQueue)))
    (m_WorkQueue___init__ : PySem.W.findIn K (.ref C_WorkQueue) "__init__" = some (some (.ref f_WorkQueue___init__)))
    (i_WorkQueue___init__ : PySem.W.isFn K (.ref f_WorkQueue___init__) = true)
    (l_WorkQueue___init__ : K.lookup f_WorkQueue___init__ = some ⟨oc_WorkQueue___init__, od_WorkQueue___init__, .func (PySem.W.fnOf "__init__" "WorkQueue.__init__" (defArgs s_WorkQueue___init__) (defBody s_WorkQueue___init__) (defScope s_WorkQueue___init__) .none (.ref kD_WorkQueue___init__) dc_WorkQueue___init__ pm_WorkQueue___init__ an_WorkQueue___init__ cd_WorkQueue___init__ ct_WorkQueue___init__), sl_WorkQueue___init__⟩)
    (c_WorkQueue___init__ : PySem.W.codeIn K cd_WorkQueue___init__ "WorkQueue.__init__" = true)
    (k_WorkQueue___init__ : PySem.W.keepIn K (.ref f_WorkQueue___init__) = true)
    (kq_WorkQueue___init___most : PySem.W.nsIn K kD_WorkQueue___init__ "most" = some (some (.int 8 kt_WorkQueue___init___most)))
    (m_WorkQueue_add : PySem.W.findIn K (.ref C_WorkQueue) "add" = some (some (.ref f_WorkQueue_add)))
    (i_WorkQueue_add : PySem.W.isFn K (.ref f_WorkQueue_add) = true)
    (l_WorkQueue_add : K.lookup f_WorkQueue_add = some ⟨oc_WorkQueue_add, od_WorkQueue_add, .func (PySem.W.fnOf "add" "WorkQueue.add" (defArgs s_WorkQueue_add) (defBody s_WorkQueue_add) (defScope s_WorkQueue_add) .none kV_WorkQueue_add dc_WorkQueue_add pm_WorkQueue_add an_WorkQueue_add cd_WorkQueue_add ct_WorkQueue_add), sl_WorkQueue_add⟩)
    (c_WorkQueue_add : PySem.W.codeIn K cd_WorkQueue_add "WorkQueue.add" = true)
    (k_WorkQueue_add : PySem.W.keepIn K (.ref f_WorkQueue_add) = true)
    (m_WorkQueue_add_later : PySem.W.findIn K (.ref C_WorkQueue) "add_later" = some (some (.ref f_WorkQueue_add_later)))
    (i_WorkQueue_add_later : PySem.W.isFn K (.ref f_WorkQueue_add_later) = true)
    (l_WorkQueue_add_later : K.lookup f_WorkQueue_add_later = some ⟨oc_WorkQueue_add_later, od_WorkQueue_add_later, .func (PySem.W.fnOf "add_later" "WorkQueue.add_later" (defArgs s_WorkQueue_add_later) (defBody s_WorkQueue_add_later) (defScope s_WorkQueue_add_later) .none kV_WorkQueue_add_later dc_WorkQueue_add_later pm_WorkQueue_add_later an_WorkQueue_add_later cd_WorkQueue_add_later ct_WorkQueue_add_later), sl_WorkQueue_add_later⟩)
    (c_WorkQueue_add_later : PySem.W.codeIn K cd_WorkQueue_add_later "WorkQueue.add_later" = true)
    (k_WorkQueue_add_later : PySem.W.keepIn K (.ref f_WorkQueue_add_later) = true)
    (m_WorkQueue_tick : PySem.W.findIn K (.ref C_WorkQueue) "tick" = some (some (.ref f_WorkQueue_tick)))
    (i_WorkQueue_tick : PySem.W.isFn K (.ref f_WorkQueue_tick) = true)
    (l_WorkQueue_tick : K.lookup f_WorkQueue_tick = some ⟨oc_WorkQueue_tick, od_WorkQueue_tick, .func (PySem.W.fnOf "tick" "WorkQueue.tick" (defArgs s_WorkQueue_tick) (defBody s_WorkQueue_tick) (defScope s_WorkQueue_tick) .none kV_WorkQueue_tick dc_WorkQueue_tick pm_WorkQueue_tick an_WorkQueue_tick cd_WorkQueue_tick ct_WorkQueue_tick), sl_WorkQueue_tick⟩)
    (c_WorkQueue_tick : PySem.W.codeIn K cd_WorkQueue_tick "WorkQueue.tick" = true)
    (k_WorkQueue_tick : PySem.W.keepIn K (.ref f_WorkQueue_tick) = true)
    (m_WorkQueue_take : PySem.W.findIn K (.ref C_WorkQueue) "take" = some (some (.ref f_WorkQueue_take)))
    (i_WorkQueue_take : PySem.W.isFn K (.ref f_WorkQueue_take) = true)
    (l_WorkQueue_take : K.lookup f_WorkQueue_take = some ⟨oc_WorkQueue_take, od_WorkQueue_take, .func (PySem.W.fnOf "take" "WorkQueue.take" (defArgs s_WorkQueue_take) (defBody s_WorkQueue_take) (defScope s_WorkQueue_take) .none kV_WorkQueue_take dc_WorkQueue_take pm_WorkQueue_take an_WorkQueue_take cd_WorkQueue_take ct_WorkQueue_take), sl_WorkQueue_take⟩)
    (c_WorkQueue_take : PySem.W.codeIn K cd_WorkQueue_take "WorkQueue.take" = true)
    (k_WorkQueue_take : PySem.W.keepIn K (.ref f_WorkQueue_take) = true)
    (m_WorkQueue_finish : PySem.W.findIn K (.ref C_WorkQueue) "finish" = some (some (.ref f_WorkQueue_finish)))
    (i_WorkQueue_finish : PySem.W.isFn K (.ref f_WorkQueue_finish) = true)
    (l_WorkQueue_finish : K.lookup f_WorkQueue_finish = some ⟨oc_WorkQueue_finish, od_WorkQueue_finish, .func (PySem.W.fnOf "finish" "WorkQueue.finish" (defArgs s_WorkQueue_finish) (defBody s_WorkQueue_finish) (defScope s_WorkQueue_finish) .none kV_WorkQueue_finish dc_WorkQueue_finish pm_WorkQueue_finish an_WorkQueue_finish cd_WorkQueue_finish ct_WorkQueue_finish), sl_WorkQueue_finish⟩)
    (c_WorkQueue_finish : PySem.W.codeIn K cd_WorkQueue_finish "WorkQueue.finish" = true)
    (k_WorkQueue_finish : PySem.W.keepIn K (.ref f_WorkQueue_finish) = true)
    (m_WorkQueue_fail : PySem.W.findIn K (.ref C_WorkQueue) "fail" = some (some (.ref f_WorkQueue_fail)))
    (i_WorkQueue_fail : PySem.W.isFn K (.ref f_WorkQueue_fail) = true)
    (l_WorkQueue_fail : K.lookup f_WorkQueue_fail = some ⟨oc_WorkQueue_fail, od_WorkQueue_fail, .func (PySem.W.fnOf "fail" "WorkQueue.fail" (defArgs s_WorkQueue_fail) (defBody s_WorkQueue_fail) (defScope s_WorkQueue_fail) .none kV_WorkQueue_fail dc_WorkQueue_fail pm_WorkQueue_fail an_WorkQueue_fail cd_WorkQueue_fail ct_WorkQueue_fail), sl_WorkQueue_fail⟩)
    (c_WorkQueue_fail : PySem.W.codeIn K cd_WorkQueue_fail "WorkQueue.fail" = true)
    (k_WorkQueue_fail : PySem.W.keepIn K (.ref f_WorkQueue_fail) = true)
    (m_WorkQueue__leave : PySem.W.findIn K (.ref C_WorkQueue) "_leave" = some (some (.ref f_WorkQueue__leave)))
    (i_WorkQueue__leave : PySem.W.isFn K (.ref f_WorkQueue__leave) = true)
    (l_WorkQueue__leave : K.lookup f_WorkQueue__leave = some ⟨oc_WorkQueue__leave, od_WorkQueue__leave, .func (PySem.W.fnOf "_leave" "WorkQueue._leave" (defArgs s_WorkQueue__leave) (defBody s_WorkQueue__leave) (defScope s_WorkQueue__leave) .none kV_WorkQueue__leave dc_WorkQueue__leave pm_WorkQueue__leave an_WorkQueue__leave cd_WorkQueue__leave ct_WorkQueue__leave), sl_WorkQueue__leave⟩)
    (c_WorkQueue__leave : PySem.W.codeIn K cd_WorkQueue__leave "WorkQueue._leave" = true)
    (k_WorkQueue__leave : PySem.W.keepIn K (.ref f_WorkQueue__leave) = true)
    (m_WorkQueue__delay : PySem.W.findIn K (.ref C_WorkQueue) "_delay" = some (some (.ref f_WorkQueue__delay)))
    (i_WorkQueue__delay : PySem.W.isFn K (.ref f_WorkQueue__delay) = true)
    (l_WorkQueue__delay : K.lookup f_WorkQueue__delay = some ⟨oc_WorkQueue__delay, od_WorkQueue__delay, .func (PySem.W.fnOf "_delay" "WorkQueue._delay" (defArgs s_WorkQueue__delay) (defBody s_WorkQueue__delay) (defScope s_WorkQueue__delay) .none kV_WorkQueue__delay dc_WorkQueue__delay pm_WorkQueue__delay an_WorkQueue__delay cd_WorkQueue__delay ct_WorkQueue__delay), sl_WorkQueue__delay⟩)
    (c_WorkQueue__delay : PySem.W.codeIn K cd_WorkQueue__delay "WorkQueue._delay" = true)
    (k_WorkQueue__delay : PySem.W.keepIn K (.ref f_WorkQueue__delay) = true)
    (m_WorkQueue_waiting : PySem.W.findIn K (.ref C_WorkQueue) "waiting" = some (some (.ref f_WorkQueue_waiting)))
    (i_WorkQueue_waiting : PySem.W.isFn K (.ref f_WorkQueue_waiting) = true)
    (l_WorkQueue_waiting : K.lookup f_WorkQueue_waiting = some ⟨oc_WorkQueue_waiting, od_WorkQueue_waiting, .func (PySem.W.fnOf "waiting" "WorkQueue.waiting" (defArgs s_WorkQueue_waiting) (defBody s_WorkQueue_waiting) (defScope s_WorkQueue_waiting) .none kV_WorkQueue_waiting dc_WorkQueue_waiting pm_WorkQueue_waiting an_WorkQueue_waiting cd_WorkQueue_waiting ct_WorkQueue_waiting), sl_WorkQueue_waiting⟩)
    (c_WorkQueue_waiting : PySem.W.codeIn K cd_WorkQueue_waiting "WorkQueue.waiting" = true)
    (k_WorkQueue_waiting : PySem.W.keepIn K (.ref f_WorkQueue_waiting) = true)
    (m_WorkQueue_in_work : PySem.W.findIn K (.ref C_WorkQueue) "in_work" = some (some (.ref f_WorkQueue_in_work)))
    (i_WorkQueue_in_work : PySem.W.isFn K (.ref f_WorkQueue_in_work) = true)
    (l_WorkQueue_in_work : K.lookup f_WorkQueue_in_work = some ⟨oc_WorkQueue_in_work, od_WorkQueue_in_work, .func (PySem.W.fnOf "in_work" "WorkQueue.in_work" (defArgs s_WorkQueue_in_work) (defBody s_WorkQueue_in_work) (defScope s_WorkQueue_in_work) .none kV_WorkQueue_in_work dc_WorkQueue_in_work pm_WorkQueue_in_work an_WorkQueue_in_work cd_WorkQueue_in_work ct_WorkQueue_in_work), sl_WorkQueue_in_work⟩)
    (c_WorkQueue_in_work : PySem.W.codeIn K cd_WorkQueue_in_work "WorkQueue.in_work" = true)
    (k_WorkQueue_in_work : PySem.W.keepIn K (.ref f_WorkQueue_in_work) = true)
    (m_WorkQueue_delayed : PySem.W.findIn K (.ref C_WorkQueue) "delayed" = some (some (.ref f_WorkQueue_delayed)))
    (i_WorkQueue_delayed : PySem.W.isFn K (.ref f_WorkQueue_delayed) = true)
    (l_WorkQueue_delayed : K.lookup f_WorkQueue_delayed = some ⟨oc_WorkQueue_delayed, od_WorkQueue_delayed, .func (PySem.W.fnOf "delayed" "WorkQueue.delayed" (defArgs s_WorkQueue_delayed) (defBody s_WorkQueue_delayed) (defScope s_WorkQueue_delayed) .none kV_WorkQueue_delayed dc_WorkQueue_delayed pm_WorkQueue_delayed an_WorkQueue_delayed cd_WorkQueue_delayed ct_WorkQueue_delayed), sl_WorkQueue_delayed⟩)
    (c_WorkQueue_delayed : PySem.W.codeIn K cd_WorkQueue_delayed "WorkQueue.delayed" = true)
    (k_WorkQueue_delayed : PySem.W.keepIn K (.ref f_WorkQueue_delayed) = true)
    (m_WorkQueue_failures : PySem.W.findIn K (.ref C_WorkQueue) "failures" = some (some (.ref f_WorkQueue_failures)))
    (i_WorkQueue_failures : PySem.W.isFn K (.ref f_WorkQueue_failures) = true)
    (l_WorkQueue_failures : K.lookup f_WorkQueue_failures = some ⟨oc_WorkQueue_failures, od_WorkQueue_failures, .func (PySem.W.fnOf "failures" "WorkQueue.failures" (defArgs s_WorkQueue_failures) (defBody s_WorkQueue_failures) (defScope s_WorkQueue_failures) .none kV_WorkQueue_failures dc_WorkQueue_failures pm_WorkQueue_failures an_WorkQueue_failures cd_WorkQueue_failures ct_WorkQueue_failures), sl_WorkQueue_failures⟩)
    (c_WorkQueue_failures : PySem.W.codeIn K cd_WorkQueue_failures "WorkQueue.failures" = true)
    (k_WorkQueue_failures : PySem.W.keepIn K (.ref f_WorkQueue_failures) = true)
    (g__law_mix : PySem.W.nsIn K mainGlobals "_law_mix" = some (some (.ref f__law_mix)))
    (l__law_mix : K.lookup f__law_mix = some ⟨oc__law_mix, od__law_mix, .func (PySem.W.fnOf "_law_mix" "_law_mix" (defArgs s__law_mix) (defBody s__law_mix) (defScope s__law_mix) .none kV__law_mix dc__law_mix pm__law_mix an__law_mix cd__law_mix ct__law_mix), sl__law_mix⟩)
    (c__law_mix : PySem.W.codeIn K cd__law_mix "_law_mix" = true)
    (k__law_mix : PySem.W.keepIn K (.ref f__law_mix) = true)
    (g__law_row : PySem.W.nsIn K mainGlobals "_law_row" = some (some (.ref f__law_row)))
    (l__law_row : K.lookup f__law_row = some ⟨oc__law_row, od__law_row, .func (PySem.W.fnOf "_law_row" "_law_row" (defArgs s__law_row) (defBody s__law_row) (defScope s__law_row) .none kV__law_row dc__law_row pm__law_row an__law_row cd__law_row ct__law_row), sl__law_row⟩)
    (c__law_row : PySem.W.codeIn K cd__law_row "_law_row" = true)
    (k__law_row : PySem.W.keepIn K (.ref f__law_row) = true)
    (g__law_key : PySem.W.nsIn K mainGlobals "_law_key" = some (some (.ref f__law_key)))
    (l__law_key : K.lookup f__law_key = some ⟨oc__law_key, od__law_key, .func (PySem.W.fnOf "_law_key" "_law_key" (defArgs s__law_key) (defBody s__law_key) (defScope s__law_key) .none kV__law_key dc__law_key pm__law_key an__law_key cd__law_key ct__law_key), sl__law_key⟩)
    (c__law_key : PySem.W.codeIn K cd__law_key "_law_key" = true)
    (k__law_key : PySem.W.keepIn K (.ref f__law_key) = true)
    (g__law_take : PySem.W.nsIn K mainGlobals "_law_take" = some (some (.ref f__law_take)))
    (l__law_take : K.lookup f__law_take = some ⟨oc__law_take, od__law_take, .func (PySem.W.fnOf "_law_take" "_law_take" (defArgs s__law_take) (defBody s__law_take) (defScope s__law_take) .none kV__law_take dc__law_take pm__law_take an__law_take cd__law_take ct__law_take), sl__law_take⟩)
    (c__law_take : PySem.W.codeIn K cd__law_take "_law_take" = true)
    (k__law_take : PySem.W.keepIn K (.ref f__law_take) = true)
    (g__law_owe : PySem.W.nsIn K mainGlobals "_law_owe" = some (some (.ref f__law_owe)))
    (l__law_owe : K.lookup f__law_owe = some ⟨oc__law_owe, od__law_owe, .func (PySem.W.fnOf "_law_owe" "_law_owe" (defArgs s__law_owe) (defBody s__law_owe) (defScope s__law_owe) .none kV__law_owe dc__law_owe pm__law_owe an__law_owe cd__law_owe ct__law_owe), sl__law_owe⟩)
    (c__law_owe : PySem.W.codeIn K cd__law_owe "_law_owe" = true)
    (k__law_owe : PySem.W.keepIn K (.ref f__law_owe) = true)
    (g__law_deed : PySem.W.nsIn K mainGlobals "_law_deed" = some (some (.ref f__law_deed)))
    (l__law_deed : K.lookup f__law_deed = some ⟨oc__law_deed, od__law_deed, .func (PySem.W.fnOf "_law_deed" "_law_deed" (defArgs s__law_deed) (defBody s__law_deed) (defScope s__law_deed) .none kV__law_deed dc__law_deed pm__law_deed an__law_deed cd__law_deed ct__law_deed), sl__law_deed⟩)
    (c__law_deed : PySem.W.codeIn K cd__law_deed "_law_deed" = true)
    (k__law_deed : PySem.W.keepIn K (.ref f__law_deed) = true)
    (g__law_drain : PySem.W.nsIn K mainGlobals "_law_drain" = some (some (.ref f__law_drain)))
    (l__law_drain : K.lookup f__law_drain = some ⟨oc__law_drain, od__law_drain, .func (PySem.W.fnOf "_law_drain" "_law_drain" (defArgs s__law_drain) (defBody s__law_drain) (defScope s__law_drain) .none kV__law_drain dc__law_drain pm__law_drain an__law_drain cd__law_drain ct__law_drain), sl__law_drain⟩)
    (c__law_drain : PySem.W.codeIn K cd__law_drain "_law_drain" = true)
    (k__law_drain : PySem.W.keepIn K (.ref f__law_drain) = true)
    (g_law : PySem.W.nsIn K mainGlobals "law" = some (some (.ref f_law)))
    (l_law : K.lookup f_law = some ⟨oc_law, od_law, .func (PySem.W.fnOf "law" "law" (defArgs s_law) (defBody s_law) (defScope s_law) .none kV_law dc_law pm_law an_law cd_law ct_law), sl_law⟩)
    (c_law : PySem.W.codeIn K cd_law "law" = true)
    (k_law : PySem.W.keepIn K (.ref f_law) = true)
    (pg_WorkQueue : PySem.W.plainGet K C_WorkQueue Str.empty = true)
    (hd_WorkQueue : PySem.W.hasDictIn K C_WorkQueue = true)
    (po_WorkQueue : PySem.W.plainOver K C_WorkQueue = true)
    (sa_WorkQueue : PySem.W.findIn K (.ref C_WorkQueue) "__setattr__" = some (some (.builtin "object.__setattr__")))
    (mk_WorkQueue : PySem.W.makesIn K C_WorkQueue = true)
    (kc_WorkQueue : PySem.W.keepIn K (.ref C_WorkQueue) = true)
    (na_WorkQueue__most : PySem.W.findIn K (.ref C_WorkQueue) "_most" = some none)
    (na_WorkQueue__waiting : PySem.W.findIn K (.ref C_WorkQueue) "_waiting" = some none)
    (na_WorkQueue__working : PySem.W.findIn K (.ref C_WorkQueue) "_working" = some none)
    (na_WorkQueue__ticks : PySem.W.findIn K (.ref C_WorkQueue) "_ticks" = some none)
    (na_WorkQueue__failures : PySem.W.findIn K (.ref C_WorkQueue) "_failures" = some none)
    (n_list : PySem.W.nsIn K mainGlobals "list" = some none)
    (n_sorted : PySem.W.nsIn K mainGlobals "sorted" = some none)
    (n_min : PySem.W.nsIn K mainGlobals "min" = some none)
    (n_int : PySem.W.nsIn K mainGlobals "int" = some none)
    (n_range : PySem.W.nsIn K mainGlobals "range" = some none)
    (n_len : PySem.W.nsIn K mainGlobals "len" = some none) :
    ∃ fd : FuncData, (∀ (s : Shared) (v : Value), BindsTo s fd ⟨[v], []⟩ [("script", v)]) ∧ ∀ base : Heap, K.In base → base.Ns mainGlobals mg → FnOk l.prog w K mg base CX0 5 fa fd ["script"] (sp_law K) := by
  have e : fa = f_law := by
    have z := hfa.symm.trans (PySem.W.mg_of X G g_law)
    injection z with z
    injection z
  rw [e]
  let T : TX K mg := ⟨C_WorkQueue, f_WorkQueue___init__, (PySem.W.fnOf "__init__" "WorkQueue.__init__" (defArgs s_WorkQueue___init__) (defBody s_WorkQueue___init__) (defScope s_WorkQueue___init__) .none (.ref kD_WorkQueue___init__) dc_WorkQueue___init__ pm_WorkQueue___init__ an_WorkQueue___init__ cd_WorkQueue___init__ ct_WorkQueue___init__), (show FunD K "__init__" "WorkQueue.__init__" (defArgs s_WorkQueue___init__) (defBody s_WorkQueue___init__) (defScope s_WorkQueue___init__) [] [("most", .int 8)] f_WorkQueue___init__ (PySem.W.fnOf "__init__" "WorkQueue.__init__" (defArgs s_WorkQueue___init__) (defBody s_WorkQueue___init__) (defScope s_WorkQueue___init__) .none (.ref kD_WorkQueue___init__) dc_WorkQueue___init__ pm_WorkQueue___init__ an_WorkQueue___init__ cd_WorkQueue___init__ ct_WorkQueue___init__) from ⟨⟨oc_WorkQueue___init__, od_WorkQueue___init__, .none, .ref kD_WorkQueue___init__, dc_WorkQueue___init__, pm_WorkQueue___init__, an_WorkQueue___init__, cd_WorkQueue___init__, ct_WorkQueue___init__, sl_WorkQueue___init__, rfl, l_WorkQueue___init__, c_WorkQueue___init__, Or.inl ⟨rfl, rfl⟩, Or.inr ⟨kD_WorkQueue___init__, rfl, (fun q hq => by simp only [List.mem_cons, List.not_mem_nil, or_false] at hq; rcases hq with rfl <;> exact ⟨_, by assumption, ⟨_, rfl⟩⟩)⟩⟩, k_WorkQueue___init__⟩), ((show FunD K "__init__" "WorkQueue.__init__" (defArgs s_WorkQueue___init__) (defBody s_WorkQueue___init__) (defScope s_WorkQueue___init__) [] [("most", .int 8)] f_WorkQueue___init__ (PySem.W.fnOf "__init__" "WorkQueue.__init__" (defArgs s_WorkQueue___init__) (defBody s_WorkQueue___init__) (defScope s_WorkQueue___init__) .none (.ref kD_WorkQueue___init__) dc_WorkQueue___init__ pm_WorkQueue___init__ an_WorkQueue___init__ cd_WorkQueue___init__ ct_WorkQueue___init__) from ⟨⟨oc_WorkQueue___init__, od_WorkQueue___init__, .none, .ref kD_WorkQueue___init__, dc_WorkQueue___init__, pm_WorkQueue___init__, an_WorkQueue___init__, cd_WorkQueue___init__, ct_WorkQueue___init__, sl_WorkQueue___init__, rfl, l_WorkQueue___init__, c_WorkQueue___init__, Or.inl ⟨rfl, rfl⟩, Or.inr ⟨kD_WorkQueue___init__, rfl, (fun q hq => by simp only [List.mem_cons, List.not_mem_nil, or_false] at hq; rcases hq with rfl <;> exact ⟨_, by assumption, ⟨_, rfl⟩⟩)⟩⟩, k_WorkQueue___init__⟩).binds0 1 (by simp) rfl (fun D doc pm an cdv ct us ks h1 h2 => match us, ks, h1, h2 with | [_], [_], _, _ => ⟨_, _, _, _, _, _, rfl, rfl, rfl⟩)), ((show FunD K "__init__" "WorkQueue.__init__" (defArgs s_WorkQueue___init__) (defBody s_WorkQueue___init__) (defScope s_WorkQueue___init__) [] [("most", .int 8)] f_WorkQueue___init__ (PySem.W.fnOf "__init__" "WorkQueue.__init__" (defArgs s_WorkQueue___init__) (defBody s_WorkQueue___init__) (defScope s_WorkQueue___init__) .none (.ref kD_WorkQueue___init__) dc_WorkQueue___init__ pm_WorkQueue___init__ an_WorkQueue___init__ cd_WorkQueue___init__ ct_WorkQueue___init__) from ⟨⟨oc_WorkQueue___init__, od_WorkQueue___init__, .none, .ref kD_WorkQueue___init__, dc_WorkQueue___init__, pm_WorkQueue___init__, an_WorkQueue___init__, cd_WorkQueue___init__, ct_WorkQueue___init__, sl_WorkQueue___init__, rfl, l_WorkQueue___init__, c_WorkQueue___init__, Or.inl ⟨rfl, rfl⟩, Or.inr ⟨kD_WorkQueue___init__, rfl, (fun q hq => by simp only [List.mem_cons, List.not_mem_nil, or_false] at hq; rcases hq with rfl <;> exact ⟨_, by assumption, ⟨_, rfl⟩⟩)⟩⟩, k_WorkQueue___init__⟩).kbinds0 1 ["most"] [] (fun us mv ws => us ++ (mv ++ ws)) (by simp) (fun q hq => by cases hq) (fun r1 r2 r3 => r1.append (r2.append r3)) (fun D doc pm an cdv ct us mv ws h1 h2 h3 => match us, mv, ws, h1, h2, h3 with | [_], [], [_], _, _, _ => rfl)), f_WorkQueue_add, (PySem.W.fnOf "add" "WorkQueue.add" (defArgs s_WorkQueue_add) (defBody s_WorkQueue_add) (defScope s_WorkQueue_add) .none kV_WorkQueue_add dc_WorkQueue_add pm_WorkQueue_add an_WorkQueue_add cd_WorkQueue_add ct_WorkQueue_add), (fun_mk (st := s_WorkQueue_add) l_WorkQueue_add c_WorkQueue_add k_WorkQueue_add), ((fun_mk (st := s_WorkQueue_add) l_WorkQueue_add c_WorkQueue_add k_WorkQueue_add).binds (ps := ["self", "key"]) fun _ _ _ _ _ _ us hl => match us, hl with | [_, _], _ => rfl), ⟨m_WorkQueue_add, i_WorkQueue_add, k_WorkQueue_add⟩, f_WorkQueue_add_later, (PySem.W.fnOf "add_later" "WorkQueue.add_later" (defArgs s_WorkQueue_add_later) (defBody s_WorkQueue_add_later) (defScope s_WorkQueue_add_later) .none kV_WorkQueue_add_later dc_WorkQueue_add_later pm_WorkQueue_add_later an_WorkQueue_add_later cd_WorkQueue_add_later ct_WorkQueue_add_later), (fun_mk (st := s_WorkQueue_add_later) l_WorkQueue_add_later c_WorkQueue_add_later k_WorkQueue_add_later), ((fun_mk (st := s_WorkQueue_add_later) l_WorkQueue_add_later c_WorkQueue_add_later k_WorkQueue_add_later).binds (ps := ["self", "key", "ticks"]) fun _ _ _ _ _ _ us hl => match us, hl with | [_, _, _], _ => rfl), ⟨m_WorkQueue_add_later, i_WorkQueue_add_later, k_WorkQueue_add_later⟩, f_WorkQueue_tick, (PySem.W.fnOf "tick" "WorkQueue.tick" (defArgs s_WorkQueue_tick) (defBody s_WorkQueue_tick) (defScope s_WorkQueue_tick) .none kV_WorkQueue_tick dc_WorkQueue_tick pm_WorkQueue_tick an_WorkQueue_tick cd_WorkQueue_tick ct_WorkQueue_tick), (fun_mk (st := s_WorkQueue_tick) l_WorkQueue_tick c_WorkQueue_tick k_WorkQueue_tick), ((fun_mk (st := s_WorkQueue_tick) l_WorkQueue_tick c_WorkQueue_tick k_WorkQueue_tick).binds (ps := ["self"]) fun _ _ _ _ _ _ us hl => match us, hl with | [_], _ => rfl), ⟨m_WorkQueue_tick, i_WorkQueue_tick, k_WorkQueue_tick⟩, f_WorkQueue_take, (PySem.W.fnOf "take" "WorkQueue.take" (defArgs s_WorkQueue_take) (defBody s_WorkQueue_take) (defScope s_WorkQueue_take) .none kV_WorkQueue_take dc_WorkQueue_take pm_WorkQueue_take an_WorkQueue_take cd_WorkQueue_take ct_WorkQueue_take), (fun_mk (st := s_WorkQueue_take) l_WorkQueue_take c_WorkQueue_take k_WorkQueue_take), ((fun_mk (st := s_WorkQueue_take) l_WorkQueue_take c_WorkQueue_take k_WorkQueue_take).binds (ps := ["self"]) fun _ _ _ _ _ _ us hl => match us, hl with | [_], _ => rfl), ⟨m_WorkQueue_take, i_WorkQueue_take, k_WorkQueue_take⟩, f_WorkQueue_finish, (PySem.W.fnOf "finish" "WorkQueue.finish" (defArgs s_WorkQueue_finish) (defBody s_WorkQueue_finish) (defScope s_WorkQueue_finish) .none kV_WorkQueue_finish dc_WorkQueue_finish pm_WorkQueue_finish an_WorkQueue_finish cd_WorkQueue_finish ct_WorkQueue_finish), (fun_mk (st := s_WorkQueue_finish) l_WorkQueue_finish c_WorkQueue_finish k_WorkQueue_finish), ((fun_mk (st := s_WorkQueue_finish) l_WorkQueue_finish c_WorkQueue_finish k_WorkQueue_finish).binds (ps := ["self", "key"]) fun _ _ _ _ _ _ us hl => match us, hl with | [_, _], _ => rfl), ⟨m_WorkQueue_finish, i_WorkQueue_finish, k_WorkQueue_finish⟩, f_WorkQueue_fail, (PySem.W.fnOf "fail" "WorkQueue.fail" (defArgs s_WorkQueue_fail) (defBody s_WorkQueue_fail) (defScope s_WorkQueue_fail) .none kV_WorkQueue_fail dc_WorkQueue_fail pm_WorkQueue_fail an_WorkQueue_fail cd_WorkQueue_fail ct_WorkQueue_fail), (fun_mk (st := s_WorkQueue_fail) l_WorkQueue_fail c_WorkQueue_fail k_WorkQueue_fail), ((fun_mk (st := s_WorkQueue_fail) l_WorkQueue_fail c_WorkQueue_fail k_WorkQueue_fail).binds (ps := ["self", "key"]) fun _ _ _ _ _ _ us hl => match us, hl with | [_, _], _ => rfl), ⟨m_WorkQueue_fail, i_WorkQueue_fail, k_WorkQueue_fail⟩, f_WorkQueue__leave, (PySem.W.fnOf "_leave" "WorkQueue._leave" (defArgs s_WorkQueue__leave) (defBody s_WorkQueue__leave) (defScope s_WorkQueue__leave) .none kV_WorkQueue__leave dc_WorkQueue__leave pm_WorkQueue__leave an_WorkQueue__leave cd_WorkQueue__leave ct_WorkQueue__leave), (fun_mk (st := s_WorkQueue__leave) l_WorkQueue__leave c_WorkQueue__leave k_WorkQueue__leave), ((fun_mk (st := s_WorkQueue__leave) l_WorkQueue__leave c_WorkQueue__leave k_WorkQueue__leave).binds (ps := ["self", "key"]) fun _ _ _ _ _ _ us hl => match us, hl with | [_, _], _ => rfl), ⟨m_WorkQueue__leave, i_WorkQueue__leave, k_WorkQueue__leave⟩, f_WorkQueue__delay, (PySem.W.fnOf "_delay" "WorkQueue._delay" (defArgs s_WorkQueue__delay) (defBody s_WorkQueue__delay) (defScope s_WorkQueue__delay) .none kV_WorkQueue__delay dc_WorkQueue__delay pm_WorkQueue__delay an_WorkQueue__delay cd_WorkQueue__delay ct_WorkQueue__delay), (fun_mk (st := s_WorkQueue__delay) l_WorkQueue__delay c_WorkQueue__delay k_WorkQueue__delay), ((fun_mk (st := s_WorkQueue__delay) l_WorkQueue__delay c_WorkQueue__delay k_WorkQueue__delay).binds (ps := ["self", "key"]) fun _ _ _ _ _ _ us hl => match us, hl with | [_, _], _ => rfl), ⟨m_WorkQueue__delay, i_WorkQueue__delay, k_WorkQueue__delay⟩, f_WorkQueue_waiting, (PySem.W.fnOf "waiting" "WorkQueue.waiting" (defArgs s_WorkQueue_waiting) (defBody s_WorkQueue_waiting) (defScope s_WorkQueue_waiting) .none kV_WorkQueue_waiting dc_WorkQueue_waiting pm_WorkQueue_waiting an_WorkQueue_waiting cd_WorkQueue_waiting ct_WorkQueue_waiting), (fun_mk (st := s_WorkQueue_waiting) l_WorkQueue_waiting c_WorkQueue_waiting k_WorkQueue_waiting), ((fun_mk (st := s_WorkQueue_waiting) l_WorkQueue_waiting c_WorkQueue_waiting k_WorkQueue_waiting).binds (ps := ["self"]) fun _ _ _ _ _ _ us hl => match us, hl with | [_], _ => rfl), ⟨m_WorkQueue_waiting, i_WorkQueue_waiting, k_WorkQueue_waiting⟩, f_WorkQueue_in_work, (PySem.W.fnOf "in_work" "WorkQueue.in_work" (defArgs s_WorkQueue_in_work) (defBody s_WorkQueue_in_work) (defScope s_WorkQueue_in_work) .none kV_WorkQueue_in_work dc_WorkQueue_in_work pm_WorkQueue_in_work an_WorkQueue_in_work cd_WorkQueue_in_work ct_WorkQueue_in_work), (fun_mk (st := s_WorkQueue_in_work) l_WorkQueue_in_work c_WorkQueue_in_work k_WorkQueue_in_work), ((fun_mk (st := s_WorkQueue_in_work) l_WorkQueue_in_work c_WorkQueue_in_work k_WorkQueue_in_work).binds (ps := ["self"]) fun _ _ _ _ _ _ us hl => match us, hl with | [_], _ => rfl), ⟨m_WorkQueue_in_work, i_WorkQueue_in_work, k_WorkQueue_in_work⟩, f_WorkQueue_delayed, (PySem.W.fnOf "delayed" "WorkQueue.delayed" (defArgs s_WorkQueue_delayed) (defBody s_WorkQueue_delayed) (defScope s_WorkQueue_delayed) .none kV_WorkQueue_delayed dc_WorkQueue_delayed pm_WorkQueue_delayed an_WorkQueue_delayed cd_WorkQueue_delayed ct_WorkQueue_delayed), (fun_mk (st := s_WorkQueue_delayed) l_WorkQueue_delayed c_WorkQueue_delayed k_WorkQueue_delayed), ((fun_mk (st := s_WorkQueue_delayed) l_WorkQueue_delayed c_WorkQueue_delayed k_WorkQueue_delayed).binds (ps := ["self"]) fun _ _ _ _ _ _ us hl => match us, hl with | [_], _ => rfl), ⟨m_WorkQueue_delayed, i_WorkQueue_delayed, k_WorkQueue_delayed⟩, f_WorkQueue_failures, (PySem.W.fnOf "failures" "WorkQueue.failures" (defArgs s_WorkQueue_failures) (defBody s_WorkQueue_failures) (defScope s_WorkQueue_failures) .none kV_WorkQueue_failures dc_WorkQueue_failures pm_WorkQueue_failures an_WorkQueue_failures cd_WorkQueue_failures ct_WorkQueue_failures), (fun_mk (st := s_WorkQueue_failures) l_WorkQueue_failures c_WorkQueue_failures k_WorkQueue_failures), ((fun_mk (st := s_WorkQueue_failures) l_WorkQueue_failures c_WorkQueue_failures k_WorkQueue_failures).binds (ps := ["self", "key"]) fun _ _ _ _ _ _ us hl => match us, hl with | [_, _], _ => rfl), ⟨m_WorkQueue_failures, i_WorkQueue_failures, k_WorkQueue_failures⟩, f__law_mix, (PySem.W.fnOf "_law_mix" "_law_mix" (defArgs s__law_mix) (defBody s__law_mix) (defScope s__law_mix) .none kV__law_mix dc__law_mix pm__law_mix an__law_mix cd__law_mix ct__law_mix), (fun_mk (st := s__law_mix) l__law_mix c__law_mix k__law_mix), ((fun_mk (st := s__law_mix) l__law_mix c__law_mix k__law_mix).binds (ps := ["cell", "k"]) fun _ _ _ _ _ _ us hl => match us, hl with | [_, _], _ => rfl), (PySem.W.mg_of X G g__law_mix), f__law_row, (PySem.W.fnOf "_law_row" "_law_row" (defArgs s__law_row) (defBody s__law_row) (defScope s__law_row) .none kV__law_row dc__law_row pm__law_row an__law_row cd__law_row ct__law_row), (fun_mk (st := s__law_row) l__law_row c__law_row k__law_row), ((fun_mk (st := s__law_row) l__law_row c__law_row k__law_row).binds (ps := ["script", "most"]) fun _ _ _ _ _ _ us hl => match us, hl with | [_, _], _ => rfl), (PySem.W.mg_of X G g__law_row), f__law_key, (PySem.W.fnOf "_law_key" "_law_key" (defArgs s__law_key) (defBody s__law_key) (defScope s__law_key) .none kV__law_key dc__law_key pm__law_key an__law_key cd__law_key ct__law_key), (fun_mk (st := s__law_key) l__law_key c__law_key k__law_key), ((fun_mk (st := s__law_key) l__law_key c__law_key k__law_key).binds (ps := ["number"]) fun _ _ _ _ _ _ us hl => match us, hl with | [_], _ => rfl), (PySem.W.mg_of X G g__law_key), f__law_take, (PySem.W.fnOf "_law_take" "_law_take" (defArgs s__law_take) (defBody s__law_take) (defScope s__law_take) .none kV__law_take dc__law_take pm__law_take an__law_take cd__law_take ct__law_take), (fun_mk (st := s__law_take) l__law_take c__law_take k__law_take), ((fun_mk (st := s__law_take) l__law_take c__law_take k__law_take).binds (ps := ["queue", "work", "owed"]) fun _ _ _ _ _ _ us hl => match us, hl with | [_, _, _], _ => rfl), (PySem.W.mg_of X G g__law_take), f__law_owe, (PySem.W.fnOf "_law_owe" "_law_owe" (defArgs s__law_owe) (defBody s__law_owe) (defScope s__law_owe) .none kV__law_owe dc__law_owe pm__law_owe an__law_owe cd__law_owe ct__law_owe), (fun_mk (st := s__law_owe) l__law_owe c__law_owe k__law_owe), ((fun_mk (st := s__law_owe) l__law_owe c__law_owe k__law_owe).binds (ps := ["owed", "key"]) fun _ _ _ _ _ _ us hl => match us, hl with | [_, _], _ => rfl), (PySem.W.mg_of X G g__law_owe), f__law_deed, (PySem.W.fnOf "_law_deed" "_law_deed" (defArgs s__law_deed) (defBody s__law_deed) (defScope s__law_deed) .none kV__law_deed dc__law_deed pm__law_deed an__law_deed cd__law_deed ct__law_deed), (fun_mk (st := s__law_deed) l__law_deed c__law_deed k__law_deed), ((fun_mk (st := s__law_deed) l__law_deed c__law_deed k__law_deed).binds (ps := ["queue", "work", "owed", "number"]) fun _ _ _ _ _ _ us hl => match us, hl with | [_, _, _, _], _ => rfl), (PySem.W.mg_of X G g__law_deed), f__law_drain, (PySem.W.fnOf "_law_drain" "_law_drain" (defArgs s__law_drain) (defBody s__law_drain) (defScope s__law_drain) .none kV__law_drain dc__law_drain pm__law_drain an__law_drain cd__law_drain ct__law_drain), (fun_mk (st := s__law_drain) l__law_drain c__law_drain k__law_drain), ((fun_mk (st := s__law_drain) l__law_drain c__law_drain k__law_drain).binds (ps := ["queue", "owed"]) fun _ _ _ _ _ _ us hl => match us, hl with | [_, _], _ => rfl), (PySem.W.mg_of X G g__law_drain), f_law, (PySem.W.fnOf "law" "law" (defArgs s_law) (defBody s_law) (defScope s_law) .none kV_law dc_law pm_law an_law cd_law ct_law), (fun_mk (st := s_law) l_law c_law k_law), ((fun_mk (st := s_law) l_law c_law k_law).binds (ps := ["script"]) fun _ _ _ _ _ _ us hl => match us, hl with | [_], _ => rfl), (PySem.W.mg_of X G g_law), ⟨pg_WorkQueue, hd_WorkQueue, po_WorkQueue, sa_WorkQueue⟩, (PySem.W.mg_of X G gc_WorkQueue), ⟨mk_WorkQueue, m_WorkQueue___init__, i_WorkQueue___init__, kc_WorkQueue⟩, na_WorkQueue__most, na_WorkQueue__waiting, na_WorkQueue__working, na_WorkQueue__ticks, na_WorkQueue__failures, (PySem.W.mg_none_of X G n_list), (PySem.W.mg_none_of X G n_sorted), (PySem.W.mg_none_of X G n_min), (PySem.W.mg_none_of X G n_int), (PySem.W.mg_none_of X G n_range), (PySem.W.mg_none_of X G n_len)⟩
  exact ⟨T.d_law, fun s v => .of_eq rfl, fun base _ _ => ok_law T⟩
end My
open PySem PySem.W PyProof.Rows
set_option maxHeartbeats 0 in
theorem PySem.Challenge.cw_majordomo_k45_work_queue_loses_nothing_holds : PySem.Challenge.rw_majordomo_k45_work_queue_loses_nothing.Holds := by
  w_on; o_law; k_head; (case hw => w_witness2)
  k_fill
  refine L2.walk_of (l := PySem.Challenge.rw_majordomo_k45_work_queue_loses_nothing) (n := 63) (k := 5) (x := "script") (CX := (fun _ => L2.CX0)) (sp := fun w => My.sp_law _) rfl (by decide) rfl ⟨rfl, by decide, by decide⟩ (fun w h Y => PySem.W.kIn_of Y) ?F (fun _ _ a ns hl _ hS => ⟨a, ns, rfl, hS, hl, fun _ => rfl⟩) (fun _ _ _ _ _ h => h)
  case F =>
    intro w mg fa h KX G hmg
    refine' My.all_mk KX G hmg ?gc_WorkQueue ?m_WorkQueue___init__ ?i_WorkQueue___init__ ?l_WorkQueue___init__ ?c_WorkQueue___init__ ?k_WorkQueue___init__ ?kq_WorkQueue___init___most ?m_WorkQueue_add ?i_WorkQueue_add ?l_WorkQueue_add ?c_WorkQueue_add ?k_WorkQueue_add ?m_WorkQueue_add_later ?i_WorkQueue_add_later ?l_WorkQueue_add_later ?c_WorkQueue_add_later ?k_WorkQueue_add_later ?m_WorkQueue_tick ?i_WorkQueue_tick ?l_WorkQueue_tick ?c_WorkQueue_tick ?k_WorkQueue_tick ?m_WorkQueue_take ?i_WorkQueue_take ?l_WorkQueue_take ?c_WorkQueue_take ?k_WorkQueue_take ?m_WorkQueue_finish ?i_WorkQueue_finish ?l_WorkQueue_finish ?c_WorkQueue_finish ?k_WorkQueue_finish ?m_WorkQueue_fail ?i_WorkQueue_fail ?l_WorkQueue_fail ?c_WorkQueue_fail ?k_WorkQueue_fail ?m_WorkQueue__leave ?i_WorkQueue__leave ?l_WorkQueue__leave ?c_WorkQueue__leave ?k_WorkQueue__leave ?m_WorkQueue__delay ?i_WorkQueue__delay ?l_WorkQueue__delay ?c_WorkQueue__delay ?k_WorkQueue__delay ?m_WorkQueue_waiting ?i_WorkQueue_waiting ?l_WorkQueue_waiting ?c_WorkQueue_waiting ?k_WorkQueue_waiting ?m_WorkQueue_in_work ?i_WorkQueue_in_work ?l_WorkQueue_in_work ?c_WorkQueue_in_work ?k_WorkQueue_in_work ?m_WorkQueue_delayed ?i_WorkQueue_delayed ?l_WorkQueue_delayed ?c_WorkQueue_delayed ?k_WorkQueue_delayed ?m_WorkQueue_failures ?i_WorkQueue_failures ?l_WorkQueue_failures ?c_WorkQueue_failures ?k_WorkQueue_failures ?g__law_mix ?l__law_mix ?c__law_mix ?k__law_mix ?g__law_row ?l__law_row ?c__law_row ?k__law_row ?g__law_key ?l__law_key ?c__law_key ?k__law_key ?g__law_take ?l__law_take ?c__law_take ?k__law_take ?g__law_owe ?l__law_owe ?c__law_owe ?k__law_owe ?g__law_deed ?l__law_deed ?c__law_deed ?k__law_deed ?g__law_drain ?l__law_drain ?c__law_drain ?k__law_drain ?g_law ?l_law ?c_law ?k_law ?pg_WorkQueue ?hd_WorkQueue ?po_WorkQueue ?sa_WorkQueue ?mk_WorkQueue ?kc_WorkQueue ?na_WorkQueue__most ?na_WorkQueue__waiting ?na_WorkQueue__working ?na_WorkQueue__ticks ?na_WorkQueue__failures ?n_list ?n_sorted ?n_min ?n_int ?n_range ?n_len
    (case gc_WorkQueue => k_is); (case m_WorkQueue___init__ => k_is); (case i_WorkQueue___init__ => k_is); (case l_WorkQueue___init__ => k_is); (case c_WorkQueue___init__ => k_is); (case k_WorkQueue___init__ => k_is); (case kq_WorkQueue___init___most => k_is); (case m_WorkQueue_add => k_is); (case i_WorkQueue_add => k_is); (case l_WorkQueue_add => k_is); (case c_WorkQueue_add => k_is); (case k_WorkQueue_add => k_is); (case m_WorkQueue_add_later => k_is); (case i_WorkQueue_add_later => k_is); (case l_WorkQueue_add_later => k_is); (case c_WorkQueue_add_later => k_is); (case k_WorkQueue_add_later => k_is); (case m_WorkQueue_tick => k_is); (case i_WorkQueue_tick => k_is); (case l_WorkQueue_tick => k_is); (case c_WorkQueue_tick => k_is); (case k_WorkQueue_tick => k_is); (case m_WorkQueue_take => k_is); (case i_WorkQueue_take => k_is); (case l_WorkQueue_take => k_is); (case c_WorkQueue_take => k_is); (case k_WorkQueue_take => k_is); (case m_WorkQueue_finish => k_is); (case i_WorkQueue_finish => k_is); (case l_WorkQueue_finish => k_is); (case c_WorkQueue_finish => k_is); (case k_WorkQueue_finish => k_is); (case m_WorkQueue_fail => k_is); (case i_WorkQueue_fail => k_is); (case l_WorkQueue_fail => k_is); (case c_WorkQueue_fail => k_is); (case k_WorkQueue_fail => k_is); (case m_WorkQueue__leave => k_is); (case i_WorkQueue__leave => k_is); (case l_WorkQueue__leave => k_is); (case c_WorkQueue__leave => k_is); (case k_WorkQueue__leave => k_is); (case m_WorkQueue__delay => k_is); (case i_WorkQueue__delay => k_is); (case l_WorkQueue__delay => k_is); (case c_WorkQueue__delay => k_is); (case k_WorkQueue__delay => k_is); (case m_WorkQueue_waiting => k_is); (case i_WorkQueue_waiting => k_is); (case l_WorkQueue_waiting => k_is); (case c_WorkQueue_waiting => k_is); (case k_WorkQueue_waiting => k_is); (case m_WorkQueue_in_work => k_is); (case i_WorkQueue_in_work => k_is); (case l_WorkQueue_in_work => k_is); (case c_WorkQueue_in_work => k_is); (case k_WorkQueue_in_work => k_is); (case m_WorkQueue_delayed => k_is); (case i_WorkQueue_delayed => k_is); (case l_WorkQueue_delayed => k_is); (case c_WorkQueue_delayed => k_is); (case k_WorkQueue_delayed => k_is); (case m_WorkQueue_failures => k_is); (case i_WorkQueue_failures => k_is); (case l_WorkQueue_failures => k_is); (case c_WorkQueue_failures => k_is); (case k_WorkQueue_failures => k_is); (case g__law_mix => k_is); (case l__law_mix => k_is); (case c__law_mix => k_is); (case k__law_mix => k_is); (case g__law_row => k_is); (case l__law_row => k_is); (case c__law_row => k_is); (case k__law_row => k_is); (case g__law_key => k_is); (case l__law_key => k_is); (case c__law_key => k_is); (case k__law_key => k_is); (case g__law_take => k_is); (case l__law_take => k_is); (case c__law_take => k_is); (case k__law_take => k_is); (case g__law_owe => k_is); (case l__law_owe => k_is); (case c__law_owe => k_is); (case k__law_owe => k_is); (case g__law_deed => k_is); (case l__law_deed => k_is); (case c__law_deed => k_is); (case k__law_deed => k_is); (case g__law_drain => k_is); (case l__law_drain => k_is); (case c__law_drain => k_is); (case k__law_drain => k_is); (case g_law => k_is); (case l_law => k_is); (case c_law => k_is); (case k_law => k_is); (case pg_WorkQueue => k_is); (case hd_WorkQueue => k_is); (case po_WorkQueue => k_is); (case sa_WorkQueue => k_is); (case mk_WorkQueue => k_is); (case kc_WorkQueue => k_is); (case na_WorkQueue__most => k_is); (case na_WorkQueue__waiting => k_is); (case na_WorkQueue__working => k_is); (case na_WorkQueue__ticks => k_is); (case na_WorkQueue__failures => k_is); (case n_list => k_is); (case n_sorted => k_is); (case n_min => k_is); (case n_int => k_is); (case n_range => k_is); (case n_len => k_is)

