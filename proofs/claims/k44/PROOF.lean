import PyProof.Rows.All
import Wide.All
import OpenK.AllK
import Wide.FinOn
import HandS.ForMost
import HandS.IsInst
import HandS.EndBits
import HandS.Wide
import HandS.WideBits
import HandS.TupAny
import HandS.Codes
import HandS.Defaults
import HandS.ForExc
import HandS.TryMany
import HandS.ExcIs
import HandS.TryElse
import HandS.DictComp
import HandS.Walk
import HandS.More
import HandS.Sort
import HandS.SortKw
import HandS.Flow
import HandS.MakeKwOnly
import HandS.ExcInit
import HandS.ExcField
import HandS.ExcOwn
import HandS.Conv
import PySem.Challenge.RW_majordomo_k44_work_queue_by_model
set_option Elab.async false
set_option linter.all false
set_option maxRecDepth 100000
set_option maxHeartbeats 4000000

namespace My
open PySem PySem.Spec PyProof.Rows L2
/-! own words: tests, heaps, items -/
theorem ifd {p A B : Prop} [Decidable p] (h1 : p → A) (h2 : ¬ p → B) : if decide p = true then A else B := by
  by_cases h : p
  · rw [decide_eq_true h]; exact (if_pos rfl).mpr (h1 h)
  · rw [decide_eq_false h]; exact (if_neg Bool.false_ne_true).mpr (h2 h)
theorem ifn {p A B : Prop} [Decidable p] (h1 : ¬ p → A) (h2 : p → B) : if (!decide p) = true then A else B := by
  by_cases h : p
  · rw [decide_eq_true h]; exact (if_neg Bool.false_ne_true).mpr (h2 h)
  · rw [decide_eq_false h]; exact (if_pos rfl).mpr (h1 h)
theorem ift {p A B : Prop} [Decidable p] (h : p) (h1 : A) : if decide p = true then A else B := by
  rw [decide_eq_true h]; exact (if_pos rfl).mpr h1
theorem iff0 {p A B : Prop} [Decidable p] (h : ¬ p) (h1 : B) : if decide p = true then A else B := by
  rw [decide_eq_false h]; exact (if_neg Bool.false_ne_true).mpr h1
theorem ifnt {p A B : Prop} [Decidable p] (h : p) (h1 : B) : if (!decide p) = true then A else B := by
  rw [decide_eq_true h]; exact (if_neg Bool.false_ne_true).mpr h1
theorem ifbt {b : Bool} {A B : Prop} (h : b = true) (h1 : A) : if b = true then A else B := (if_pos h).mpr h1
theorem ifbf {b : Bool} {A B : Prop} (h : b = false) (h1 : B) : if b = true then A else B := by rw [h]; exact h1
theorem ifb2 {b : Bool} {A B : Prop} (h1 : b = true → A) (h2 : b = false → B) : if b = true then A else B := by
  cases b with
  | true => exact h1 rfl
  | false => exact h2 rfl
theorem same_upd {H : Hp} {p : Addr} {o : HO} (h : H p = none) : Same H (upd H p o) := fun b x e => by
  rw [upd_ne (ne_of_none e h)]
  exact e
theorem same_put {H H' : Hp} {p : Addr} {o : HO} (e : Same H H') (h : H p = none) : Same H (upd H' p o) := fun b x q => by
  rw [upd_ne (ne_of_none q h)]
  exact e b x q
theorem sqt_same {K : PySem.W.Frag} {H H' : Hp} {a : Addr} {xs : List V} (e : Same H H') (h : SqT K H a xs) : SqT K H' a xs := by
  rcases h with (h | ⟨o, h⟩) | h
  · exact .inl (.inl (e _ _ h))
  · exact .inl (.inr ⟨o, e _ _ h⟩)
  · exact .inr h
theorem sql {K : PySem.W.Frag} {H : Hp} {a : Addr} {xs : List V} (h : H a = some (.lst xs)) : SqL K H a xs := .inl (.inl h)
theorem sqt {K : PySem.W.Frag} {H : Hp} {a : Addr} {xs : List V} (h : H a = some (.tup xs)) : SqT K H a xs := .inl (.inl h)
theorem sz {n : Nat} (h : n ≤ 100000) : n ≤ sizeLine := Nat.le_trans h (by decide)
theorem szl {n : Nat} (h : n ≤ 100000) : n < sizeLine := Nat.lt_of_le_of_lt h (by decide)
theorem map_at {α : Type} {f : α → V} {xs : List α} {i : Nat} {y : V} (h : (xs.map f)[i]? = some y) : ∃ x, xs[i]? = some x ∧ y = f x := by
  rw [List.getElem?_map] at h
  cases e : xs[i]? with
  | none => rw [e] at h; cases h
  | some x => rw [e] at h; exact ⟨x, rfl, (Option.some.inj h).symm⟩
theorem at_map {α : Type} {f : α → V} {xs : List α} {i : Nat} {x : α} (h : xs[i]? = some x) : atI (xs.map f) (i : Int) = some (f x) := atI_nat (by rw [List.getElem?_map, h]; rfl)
theorem take_more {α : Type} {l : List α} {i : Nat} {x : α} (h : l[i]? = some x) : l.take (i + 1) = l.take i ++ [x] := by
  rw [List.take_add_one, h]; rfl
/-! deep data stands as long as what was tracked stands -/
mutual
theorem dp_same {K : PySem.W.Frag} {H H' : Hp} (e : Same H H') : ∀ (d : PyData) {v : V}, Dp K H v d → Dp K H' v d
  | _, _, .non => .non
  | _, _, .bl b => .bl b
  | _, _, .int i => .int i
  | _, _, .str x => .str x
  | .list ds, _, .lst h a => .lst (e.seq h) (dpa_same e ds a)
  | .tuple ds, _, .tup h a => .tup (sqt_same e h) (dpa_same e ds a)
theorem dpa_same {K : PySem.W.Frag} {H H' : Hp} (e : Same H H') : ∀ (ds : List PyData) {vs : List V}, DpAll K H vs ds → DpAll K H' vs ds
  | [], _, .nil => .nil
  | d :: ds, _, .cons h a => .cons (dp_same e d h) (dpa_same e ds a)
end
theorem dpa_len {K : PySem.W.Frag} {H : Hp} : ∀ {vs : List V} {ds : List PyData}, DpAll K H vs ds → vs.length = ds.length
  | _, _, .nil => rfl
  | _, _, .cons _ a => by rw [List.length_cons, List.length_cons, dpa_len a]
theorem dpa_at {K : PySem.W.Frag} {H : Hp} : ∀ {vs : List V} {ds : List PyData} {i : Nat} {v : V}, DpAll K H vs ds → vs[i]? = some v → ∃ d, ds[i]? = some d ∧ Dp K H v d
  | _, _, _, _, .nil, h => by simp at h
  | _, _, 0, _, .cons h _, e => ⟨_, rfl, by have := Option.some.inj e; subst this; exact h⟩
  | _, _, i + 1, _, .cons _ a, e => dpa_at (i := i) a (by simpa using e)
theorem dpa_app {K : PySem.W.Frag} {H : Hp} : ∀ {vs ws : List V} {ds es : List PyData}, DpAll K H vs ds → DpAll K H ws es → DpAll K H (vs ++ ws) (ds ++ es)
  | _, _, _, _, .nil, b => b
  | _, _, _, _, .cons h a, b => .cons h (dpa_app a b)
theorem eqv_self {d : PyData} (h : SeqAt.shaped d = true) : PyData.eqv d d = true := SeqAt.eqv_refl d (SeqAt.canLay_of_shaped h)
/-! data that may be compared -/
theorem layAll : ∀ {ds : List PyData}, (∀ d ∈ ds, d.canLay0 = true) → PyData.canLayAll0 ds = true
  | [], _ => rfl
  | d :: ds, h => by
    rw [PyData.canLayAll0, h d List.mem_cons_self, layAll fun e he => h e (List.mem_cons_of_mem _ he)]; rfl
theorem depAll {n : Nat} : ∀ {ds : List PyData}, (∀ d ∈ ds, d.depth ≤ n) → PyData.depthAll ds ≤ n
  | [], _ => Nat.zero_le _
  | d :: ds, h => by
    have h1 := h d List.mem_cons_self
    have h2 := depAll (ds := ds) fun e he => h e (List.mem_cons_of_mem _ he)
    simp only [PyData.depthAll]
    omega
/-- plain data of at most this depth -/
def Flat (n : Nat) (d : PyData) : Prop := d.canLay0 = true ∧ d.depth ≤ n
theorem flat_list {n : Nat} {ds : List PyData} (h : ∀ d ∈ ds, Flat n d) : Flat (n + 1) (.list ds) :=
  ⟨by rw [PyData.canLay0]; exact layAll fun d hd => (h d hd).1, by have := depAll (n := n) fun d hd => (h d hd).2; simp only [PyData.depth]; omega⟩
theorem flat_tup {n : Nat} {ds : List PyData} (h : ∀ d ∈ ds, Flat n d) : Flat (n + 1) (.tuple ds) :=
  ⟨by rw [PyData.canLay0]; exact layAll fun d hd => (h d hd).1, by have := depAll (n := n) fun d hd => (h d hd).2; simp only [PyData.depth]; omega⟩
theorem flat_int (n : Nat) (i : Int) : Flat n (.int i) := ⟨rfl, by simp [PyData.depth]⟩
theorem flat_str (n : Nat) (x : Str) (h : (PyData.str x).canLay0 = true := by decide +kernel) : Flat n (.str x) := ⟨h, by simp [PyData.depth]⟩
theorem flat_bl (n : Nat) (b : Bool) : Flat n (.bool b) := ⟨rfl, by simp [PyData.depth]⟩
theorem flat_non (n : Nat) : Flat n .none := ⟨rfl, by simp [PyData.depth]⟩
theorem Flat.mono {n m : Nat} {d : PyData} (h : Flat n d) (hm : n ≤ m) : Flat m d := ⟨h.1, Nat.le_trans h.2 hm⟩
theorem Flat.sh {n : Nat} {d : PyData} (h : Flat n d) (hn : n ≤ 64) : SeqAt.shaped d = true := by
  show (d.canLay0 && decide (d.depth ≤ 64)) = true
  rw [Bool.and_eq_true]
  exact ⟨h.1, decide_eq_true (Nat.le_trans h.2 hn)⟩
theorem tyx_t {K : PySem.W.Frag} {H : Hp} {a : Addr} {xs : List V} (h : SqT K H a xs) : TyX K H (.ref a) (.type "tuple") := by
  rcases h with (h | ⟨o, h⟩) | ⟨o, its, n, h, hc, _⟩
  · exact .base (.tup h)
  · exact .fTuple h
  · exact .kTuple h hc
theorem tyx_l {K : PySem.W.Frag} {H : Hp} {a : Addr} {xs : List V} (h : SqL K H a xs) : TyX K H (.ref a) (.type "list") := by
  rcases h with (h | ⟨o, h⟩) | ⟨o, its, n, h, hc, _⟩
  · exact .base (.lst h)
  · exact .base (.frz h)
  · exact .kList h hc
theorem same_both {G H : Hp} {t : Addr} {x : HO} (e : Same G H) : Same (upd G t x) (upd H t x) := fun b o h => by
  by_cases hb : b = t
  · subst hb; rw [upd_same] at h ⊢; exact h
  · rw [upd_ne hb] at h ⊢; exact e b o h
theorem set_self {α : Type} : ∀ {l : List α} {i : Nat} {x : α}, l[i]? = some x → l.set i x = l
  | [], i, x, h => by simp at h
  | a :: l, 0, x, h => by
    have e : a = x := Option.some.inj h
    subst e
    rfl
  | a :: l, i + 1, x, h => by
    show a :: l.set i x = a :: l
    rw [set_self (by simpa using h)]
theorem ixn {n j : Nat} {i : Int} (hi : i = (j : Int)) (hj : j < n) : ixN n i = some j := by
  unfold ixN
  rw [if_pos (by omega), if_pos (by omega)]
  congr 1
  omega
/-! shifts and masks in place -/
section
variable {X : Cx}
theorem ip_shr : PIp X .RShift (fun x y H Q => ∃ (i : Int) (k : Nat), x = .int i ∧ y = .int (k : Int) ∧ Q (.int (i / 2 ^ k)) H) := by
  intro pins s σ H x y v u Q I r1 r2 h
  obtain ⟨i, k, e1, e2, q⟩ := h
  subst e1; subst e2
  obtain ⟨t, rfl⟩ := r1
  obtain ⟨t', rfl⟩ := r2
  refine irshift_int (Int.natCast_nonneg k) ⟨.int _, H, I.tok _, ⟨_, rfl⟩, ?_⟩
  rw [Int.toNat_natCast, Int.fdiv_eq_ediv_of_nonneg _ (Int.le_of_lt (Int.pow_pos (by decide)))]
  exact q
theorem ip_or : PIp X .BitOr (fun x y H Q => ∃ (r a : Int) (k : Nat), x = .int r ∧ y = .int (a * 2 ^ k) ∧ (0 ≤ a ∧ 0 ≤ r ∧ r < 2 ^ k) ∧ Q (.int (r + a * 2 ^ k)) H) := by
  intro pins s σ H x y v u Q I r1 r2 h
  obtain ⟨r, a, k, e1, e2, ⟨h0, h1, h2⟩, q⟩ := h
  subst e1; subst e2
  obtain ⟨t, rfl⟩ := r1
  obtain ⟨t', rfl⟩ := r2
  refine ior_int ⟨.int _, H, I.tok _, ⟨_, rfl⟩, ?_⟩
  have e : Builtin.bitOr r (a * 2 ^ k) = r + a * 2 ^ k := by
    have hp : (0 : Int) ≤ a * 2 ^ k := Int.mul_nonneg h0 (Int.le_of_lt (Int.pow_pos (by decide)))
    rw [bitOr_nn h1 hp, Nat.or_comm, ← bitOr_nn hp h1, or_low h0 h1 h2, Int.add_comm]
  rw [e]
  exact q
end
theorem bits_small : ∀ n : Nat, n < 128 → Builtin.Int.intBits (n : Int) ≤ 8 := by decide +kernel
/-- isinstance(e, c) of the error that a suite holds, its class known by the reading -/
theorem call_isE1 {X : Cx} {a D : Addr} {oe : Obj} {cls : Value} {d : Option Addr} {pn : List (Addr × Obj)} (C : ExcC X.K D) (hz : Zc cls d oe) (hf : ∃ vs, oe.data = .fields vs) :
    CallR (X.suite a ((a, oe) :: pn)) (.builtin "isinstance") (fun xs H Q => cls = .ref D ∧ d = none ∧ rIsE X.K D a xs H Q) := fun pins s σ H xs us Q I r h => by
  obtain ⟨h1, h2, h⟩ := h
  subst h1
  subst h2
  exact call_isE C hz hf pins s σ H xs us Q I r h
/-! slices -/
theorem sIx_le {n d : Nat} {i : Nat} : HT.sIx n d (some (i : Int)) = min i n := HT.sIx_nat n d i
theorem cut0n (xs : List V) (j : Nat) : cutV xs none (some (j : Int)) = xs.take j := by
  unfold cutV
  rw [sIx_le, HT.sIx_none, List.drop_zero, Nat.sub_zero]
  exact (List.take_eq_take_min).symm
theorem cutnn (xs : List V) (i j : Nat) : cutV xs (some (i : Int)) (some (j : Int)) = (xs.drop i).take (j - i) := by
  unfold cutV
  rw [sIx_le, sIx_le]
  by_cases hi : i ≤ xs.length
  · rw [Nat.min_eq_left hi]
    by_cases hj : j ≤ xs.length
    · rw [Nat.min_eq_left hj]
    · rw [Nat.min_eq_right (by omega), List.take_of_length_le (by rw [List.length_drop]; omega), List.take_of_length_le (by rw [List.length_drop]; omega)]
  · have e : min i xs.length = xs.length := by omega
    rw [e, List.drop_of_length_le (Nat.le_refl _), List.drop_of_length_le (show xs.length ≤ i by omega), List.take_nil, List.take_nil]
theorem cut_ints (ns : List Int) {i j : Nat} {a b : Int} (ha : a = i) (hb : b = j) : cutV (ns.map V.int) (some a) (some b) = ((ns.drop i).take (j - i)).map V.int := by
  rw [ha, hb, cutnn, ← List.map_drop, ← List.map_take]
theorem rep_ints (ns : List Int) (k : Nat) : (List.replicate k (ns.map V.int)).flatten = (List.replicate k ns).flatten.map V.int := by
  rw [List.map_flatten, List.map_replicate]
/-- [e for x in a slice], e changes nothing -/
theorem lc_cut {K : PySem.W.Frag} {wi : TI} {te : TE} {s : Nat} {σ : L2.St} {H : Hp} {Q : VK} (xs : List V) (f : V → V)
    (hwi : ∀ R : It → Hp → Prop, (∀ p, H p = none → R (Itl K p) (upd H p (.lst xs))) → wi σ H R) (hlen : xs.length ≤ 90000)
    (hw : ∀ x, wipe ((wipe σ [s]).set s (some x)) [s] = wipe σ [s])
    (he : ∀ (i : Nat) (x : V) (G : Hp) (Q' : VK), xs[i]? = some x → Same H G → Q' (f x) G → te ((wipe σ [s]).set s (some x)) G Q')
    (k : ∀ D H', H D = none → Same H H' → H' D = some (.lst (xs.map f)) → Q (.ref D) H') : tLc wi (gName s) tYes te [s] σ H Q := by
  refine hwi _ fun p hp D hD => ?_
  have nD : D ≠ p := fun z => by rw [z, upd_same] at hD; cases hD
  have hD0 : H D = none := by rw [upd_ne nD] at hD; exact hD
  refine lc_list (K := K) (a := p) (xs := xs) (fun i H' => Same H H' ∧ H' p = some (.lst xs) ∧ H' D = some (.lst ((xs.take i).map f)))
    ⟨(same_upd hp).trans (same_upd hD), by rw [upd_ne nD.symm, upd_same], by rw [upd_same]; rfl⟩ (fun i H' _ h => sql h.2.1) (fun i x G hx hG => ?_) (fun G hG => ?_)
  · refine ⟨hw x, ?_⟩
    refine he i x G _ hx hG.1 ⟨_, hG.2.2, szl (by rw [List.length_map, List.length_take]; omega), same_put hG.1 hD0, by rw [upd_ne nD.symm]; exact hG.2.1, ?_⟩
    rw [upd_same, take_more hx, List.map_append]
    rfl
  · refine k D G hD0 hG.1 ?_
    rw [List.take_length] at hG
    exact hG.2.2
/-- lists of ints as data -/
theorem dpa_ints {K : PySem.W.Frag} {H : Hp} : ∀ ns : List Int, DpAll K H (ns.map V.int) (ns.map PyData.int)
  | [] => .nil
  | n :: ns => .cons (.int n) (dpa_ints ns)
theorem dp_ints {K : PySem.W.Frag} {H : Hp} {a : Addr} {ns : List Int} (h : SqL K H a (ns.map V.int)) : Dp K H (.ref a) (.list (ns.map PyData.int)) := .lst h (dpa_ints ns)
theorem flat_ints (ns : List Int) : Flat 1 (.list (ns.map PyData.int)) := flat_list (n := 0) fun d hd => by
  obtain ⟨i, _, rfl⟩ := List.mem_map.mp hd
  exact flat_int _ _
theorem flat_tints (ns : List Int) : Flat 1 (.tuple (ns.map PyData.int)) := flat_tup (n := 0) fun d hd => by
  obtain ⟨i, _, rfl⟩ := List.mem_map.mp hd
  exact flat_int _ _
theorem eqvAll_ints : ∀ xs ys : List Int, PyData.eqvAll (xs.map .int) (ys.map .int) = decide (xs = ys)
  | [], [] => rfl
  | [], _ :: _ => rfl
  | _ :: _, [] => rfl
  | x :: xs, y :: ys => by
    show ((x == y) && PyData.eqvAll (xs.map .int) (ys.map .int)) = _
    rw [eqvAll_ints xs ys, Bool.eq_iff_iff]
    simp
theorem eqv_ints (xs ys : List Int) : PyData.eqv (.list (xs.map .int)) (.list (ys.map .int)) = decide (xs = ys) := eqvAll_ints xs ys
theorem eqv_tints (xs ys : List Int) : PyData.eqv (.tuple (xs.map .int)) (.tuple (ys.map .int)) = decide (xs = ys) := eqvAll_ints xs ys
/-- a def with defaults that lets nothing out -/
theorem okD {P : Program} {w : World} {K : PySem.W.Frag} {mg : Str → Option Value} {base : Heap} {x qual : Str} {params : Arguments} {body : List Stmt} {scope : Scope} {dvs : List V} {kws : List (Str × V)} {f : Addr} {fd : FuncData} {N ps : List Str} {k : Nat} {sp : Sp}
    (F : FunD K x qual params body scope dvs kws f fd) (S : FnScope N ps scope) (len : ∀ vs H Q E, sp vs H Q E → vs.length = ps.length)
    (hb : ∀ (cdv : Value) (A : Around) (outer : List Env) (s : Shared) (H : Hp) (vs : List V) (Q : VK) (E : XK), Room k (A.deeper (envOfC qual scope s.heap.objs.size f cdv)) → sp vs H Q E →
      ∃ t, PSs (cxOf CX0 P w K mg base N qual scope f cdv A outer s H E).nox body t ∧ t { nx := fun _ H' => Q .non H', rt := Q } (start N vs) H) : FnOk P w K mg base CX0 (k + 1) f fd ps sp :=
  F.ok S len fun cdv A outer s H vs Q E hr h => by
    obtain ⟨t, h1, q⟩ := hb cdv A outer s H vs Q E hr h
    exact ⟨t, h1.nox, q⟩
/-! what an expression gives, whatever stands besides -/
def EI (te : TE) (σ : L2.St) (H : Hp) (v : V) : Prop := ∀ G, Same H G → ∀ Q : VK, Q v G → te σ G Q
def EA (ta : TA) (σ : L2.St) (H : Hp) (vs : List V) : Prop := ∀ G, Same H G → ∀ Q : List V → Hp → Prop, Q vs G → ta σ G Q
/-- a list, new or old -/
def EL (te : TE) (σ : L2.St) (H : Hp) (xs : List V) : Prop := ∀ G, Same H G → ∀ Q : VK, (∀ p G', Same G G' → G' p = some (.lst xs) → Q (.ref p) G') → te σ G Q
section
variable {K : PySem.W.Frag} {σ : L2.St} {H : Hp} {ta tb te : TE} {x y z v : V} {xs ys : List V}
theorem ei_var {i : Nat} (h : σ[i]? = some (some v)) : EI (tVar i) σ H v := fun _ _ _ q => ⟨v, h, q⟩
theorem ei_c : EI (tC v) σ H v := fun _ _ _ q => q
theorem ei_op {r : R2} (ha : EI ta σ H x) (hb : EI tb σ H y) (hr : ∀ G, Same H G → ∀ Q : VK, Q z G → r x y G Q) : EI (tOp r ta tb) σ H z := fun G s Q q => ha G s _ (hb G s _ (hr G s Q q))
theorem ei_i0 {g : Int → Int → V} {i j : Int} (ha : EI ta σ H (.int i)) (hb : EI tb σ H (.int j)) : EI (tOp (rI0 g) ta tb) σ H (g i j) := ei_op ha hb fun _ _ _ q => ⟨i, j, rfl, rfl, q⟩
theorem ei_ic {C : Int → Int → Prop} {g : Int → Int → V} {i j : Int} (ha : EI ta σ H (.int i)) (hb : EI tb σ H (.int j)) (hc : C i j) : EI (tOp (rI C g) ta tb) σ H (g i j) := ei_op ha hb fun _ _ _ q => ⟨i, j, rfl, rfl, hc, q⟩
theorem ea_nil : EA tNil σ H [] := fun _ _ _ q => q
theorem ea_cons {tr : TA} {vs : List V} (h : EI ta σ H x) (g : EA tr σ H vs) : EA (tCons ta tr) σ H (x :: vs) := fun G s _ q => h G s _ (g G s _ q)
theorem ei_cb {r : List V → Hp → VK → Prop} {tr : TA} {vs : List V} (ha : EA tr σ H vs) (hr : ∀ G, Same H G → ∀ Q : VK, Q z G → r vs G Q) : EI (tCB r tr) σ H z := fun G s Q q => ha G s _ (hr G s Q q)
/-- len of a list, list(..) of a list or a tuple, as they are read -/
def rLen (K : PySem.W.Frag) : List V → Hp → VK → Prop := fun xs H Q => ∃ p ys, xs = [.ref p] ∧ (SqL K H p ys ∨ SqT K H p ys) ∧ Q (.int ys.length) H
def rLst (K : PySem.W.Frag) : List V → Hp → VK → Prop := fun xs H Q => ∃ p ys, xs = [.ref p] ∧ (SqL K H p ys ∨ SqT K H p ys) ∧ ∀ l, H l = none → Q (.ref l) (upd H l (.lst ys))
def rTup (K : PySem.W.Frag) : List V → Hp → VK → Prop := fun xs H Q => ∃ p ys, xs = [.ref p] ∧ ((SqL K H p ys ∧ ∀ l, H l = none → Q (.ref l) (upd H l (.tup ys))) ∨ (SqT K H p ys ∧ Q (.ref p) H))
theorem callK_tuple {X : Cx} (h : X.K = K) : CallR X (.type "tuple") (rTup K) := by subst h; exact call_tuple_of
theorem callK_list {X : Cx} (h : X.K = K) : CallR X (.type "list") (rLst K) := by subst h; exact call_list_of
theorem opK_catA {X : Cx} (h : X.K = K) : OpR X (binaryOp .Add) (rCatA K) := by subst h; exact op_catA
theorem ixK_list {X : Cx} (h : X.K = K) : IxR X (rIxL K) := by subst h; exact ix_list
theorem ixK_tup {X : Cx} (h : X.K = K) : IxR X (rIxT K) := by subst h; exact ix_tup
theorem pe_fldK {X : Cx} {e : Expr} {f : Str} {pos : Pos} {ta : TE} (h : X.K = K) (he : PE X e ta) (hb : attributeBase e f X.env (eval e X.env) = eval e X.env) : PE X (.Attribute e f pos) (tFld K ta f) := by subst h; exact pe_fld he hb
theorem callK_len {X : Cx} (h : X.K = K) : CallR X (.builtin "len") (rLen K) := by subst h; exact call_len_seq
theorem ei_lenL {i : Nat} {p : Addr} (h : σ[i]? = some (some (.ref p))) (e : SqL K H p xs) : EI (tCB (rLen K) (tCons (tVar i) tNil)) σ H (.int (xs.length : Int)) := ei_cb (ea_cons (ei_var h) ea_nil) fun _ s _ q => ⟨p, xs, rfl, .inl (s.seq e), q⟩
theorem ei_lenT {i : Nat} {p : Addr} (h : σ[i]? = some (some (.ref p))) (e : SqT K H p xs) : EI (tCB (rLen K) (tCons (tVar i) tNil)) σ H (.int (xs.length : Int)) := ei_cb (ea_cons (ei_var h) ea_nil) fun _ s _ q => ⟨p, xs, rfl, .inr (sqt_same s e), q⟩
theorem ei_fld {i : Nat} {p C dx : Addr} {fs : List (Str × V)} {f : Str} (h : σ[i]? = some (some (.ref p))) (hp : H p = some (.ins C dx fs)) (c : Cls K C) (n : NoAttr K C f) (l : fs.lookup f = some v) : EI (tFld K (tVar i) f) σ H v := fun _ s _ q => ⟨.ref p, h, p, C, dx, fs, v, rfl, s _ _ hp, c, n, l, q⟩
theorem ei_din {td : TE} {d : Addr} {kvs : List (Key × V)} {k : Key} (hy : EI te σ H (kV k)) (hd : EI td σ H (.ref d)) (e : H d = some (.dK kvs)) : EI (tDIn te td) σ H (.bl (valV kvs k).isSome) := fun G s _ q => hy G s _ (hd G s _ ⟨d, _, rfl, DGet.k (s _ _ e), q⟩)
theorem ei_dnotin {td : TE} {d : Addr} {kvs : List (Key × V)} {k : Key} (hy : EI te σ H (kV k)) (hd : EI td σ H (.ref d)) (e : H d = some (.dK kvs)) : EI (tDNotIn te td) σ H (.bl (!(valV kvs k).isSome)) := fun G s _ q => hy G s _ (hd G s _ ⟨d, _, rfl, DGet.k (s _ _ e), q⟩)
theorem ei_dget {td : TE} {d : Addr} {kvs : List (Key × V)} {k : Key} (hy : EI te σ H (kV k)) (hd : EI td σ H (.ref d)) (e : H d = some (.dK kvs)) (hv : valV kvs k = some v) : EI (tDGet td te) σ H v := fun G s _ q => hd G s _ (hy G s _ ⟨d, v, rfl, by rw [← hv]; exact DGet.k (s _ _ e), q⟩)
theorem ei_ixL {p : Addr} {j : Int} (ha : EI ta σ H (.ref p)) (hi : EI tb σ H (.int j)) (e : SqL K H p xs) (h : atI xs j = some v) : EI (tOp (rIxL K) ta tb) σ H v := ei_op ha hi fun _ s _ q => ⟨p, xs, j, v, rfl, rfl, s.seq e, h, q⟩
theorem ei_ixT {p : Addr} {j : Int} (ha : EI ta σ H (.ref p)) (hi : EI tb σ H (.int j)) (e : SqT K H p xs) (h : atI xs j = some v) : EI (tOp (rIxT K) ta tb) σ H v := ei_op ha hi fun _ s _ q => ⟨p, xs, j, v, rfl, rfl, sqt_same s e, h, q⟩
theorem ei_eq (ha : EI ta σ H x) (hb : EI tb σ H y) (h : scal x y = true) : EI (tOp rEq ta tb) σ H (.bl (decide (x = y))) := ei_op ha hb fun _ _ _ q => ⟨h, q⟩
theorem ei_ne (ha : EI ta σ H x) (hb : EI tb σ H y) (h : scal x y = true) : EI (tOp rNe ta tb) σ H (.bl (!decide (x = y))) := ei_op ha hb fun _ _ _ q => ⟨h, q⟩
/-- a test by its value -/
theorem tt_use {b : Bool} {Q : Bool → Hp → Prop} (h : EI te σ H (.bl b)) (k : Q b H) : tTest te σ H Q := h H (Same.refl _) _ ⟨b, rfl, k⟩
theorem tb_use {b : Bool} {Q : Bool → Hp → Prop} (h : EI te σ H (.bl b)) (k : Q b H) : tB te σ H Q := h H (Same.refl _) _ ⟨b, rfl, k⟩
theorem el_var {i : Nat} {p : Addr} (h : σ[i]? = some (some (.ref p))) (e : H p = some (.lst xs)) : EL (tVar i) σ H xs := fun G s _ q => ⟨.ref p, h, q p G (Same.refl _) (s _ _ e)⟩
/-- a new list -/
def EN (te : TE) (σ : L2.St) (H : Hp) (xs : List V) : Prop := ∀ G, Same H G → ∀ Q : VK, (∀ p G', G p = none → Same G G' → G' p = some (.lst xs) → Q (.ref p) G') → te σ G Q
theorem EN.el (h : EN te σ H xs) : EL te σ H xs := fun G s Q q => h G s Q fun p G' _ => q p G'
theorem en_lst {tr : TA} {vs : List V} (ha : EA tr σ H vs) (hl : vs.length ≤ 90000) : EN (tLst tr) σ H vs := fun G s _ q => ha G s _ ⟨sz (by omega), fun p hp => q p _ hp (same_upd hp) upd_same⟩
theorem en_cat (ha : EL ta σ H xs) (hb : EL tb σ H ys) (hl : xs.length + ys.length ≤ 90000) : EN (tOp rCat ta tb) σ H (xs ++ ys) := fun G s _ q =>
  ha G s _ fun p G1 s1 e1 => hb G1 (s.trans s1) _ fun p2 G2 s2 e2 => ⟨p, p2, xs, ys, rfl, rfl, s2 _ _ e1, e2, sz (by omega), fun p3 h3 => q p3 _ ((s1.trans s2).free h3) ((s1.trans s2).trans (same_upd h3)) upd_same⟩
theorem en_rep {k : Int} (ha : EL ta σ H xs) (hb : EI tb σ H (.int k)) (h1 : -1000000 ≤ k) (h2 : k ≤ 1000000) (hl : xs.length * k.toNat ≤ 90000) : EN (tOp rRep ta tb) σ H (List.replicate k.toNat xs).flatten := fun G s _ q =>
  ha G s _ fun p G1 s1 e1 => hb G1 (s.trans s1) _ ⟨p, k, xs, rfl, rfl, e1, by omega, by omega, sz (by omega), fun p3 h3 => q p3 _ (s1.free h3) (s1.trans (same_upd h3)) upd_same⟩
theorem el_lst {tr : TA} {vs : List V} (ha : EA tr σ H vs) (hl : vs.length ≤ 90000) : EL (tLst tr) σ H vs := (en_lst ha hl).el
theorem el_cat (ha : EL ta σ H xs) (hb : EL tb σ H ys) (hl : xs.length + ys.length ≤ 90000) : EL (tOp rCat ta tb) σ H (xs ++ ys) := (en_cat ha hb hl).el
theorem el_rep {k : Int} (ha : EL ta σ H xs) (hb : EI tb σ H (.int k)) (h1 : -1000000 ≤ k) (h2 : k ≤ 1000000) (hl : xs.length * k.toNat ≤ 90000) : EL (tOp rRep ta tb) σ H (List.replicate k.toNat xs).flatten := (en_rep ha hb h1 h2 hl).el
theorem el_cb {r : List V → Hp → VK → Prop} {tr : TA} {vs : List V} (ha : EA tr σ H vs) (hr : ∀ G, Same H G → ∀ Q : VK, (∀ p G', Same G G' → G' p = some (.lst xs) → Q (.ref p) G') → r vs G Q) : EL (tCB r tr) σ H xs := fun G s Q q => ha G s _ (hr G s Q q)
theorem el_call {sp : Sp} {dvs : List V} {E : XK} {tr : TA} {vs : List V} (ha : EA tr σ H vs) (hr : ∀ G, Same H G → ∀ Q : VK, (∀ p G', Same G G' → G' p = some (.lst xs) → Q (.ref p) G') → sp (vs ++ dvs) G Q E) : EL (tCall sp dvs E tr) σ H xs := fun G s Q q => ha G s _ (hr G s Q q)
theorem el_listL {i : Nat} {p : Addr} (h : σ[i]? = some (some (.ref p))) (e : SqL K H p xs) : EL (tCB (rLst K) (tCons (tVar i) tNil)) σ H xs := el_cb (ea_cons (ei_var h) ea_nil) fun _ s _ q => ⟨p, xs, rfl, .inl (s.seq e), fun l hl => q l _ (same_upd hl) upd_same⟩
theorem el_listT {i : Nat} {p : Addr} (h : σ[i]? = some (some (.ref p))) (e : SqT K H p xs) : EL (tCB (rLst K) (tCons (tVar i) tNil)) σ H xs := el_cb (ea_cons (ei_var h) ea_nil) fun _ s _ q => ⟨p, xs, rfl, .inr (sqt_same s e), fun l hl => q l _ (same_upd hl) upd_same⟩
/-- x = an expression that gives a list -/
theorem EL.use {Q : VK} (h : EL te σ H xs) (k : ∀ p H', Same H H' → H' p = some (.lst xs) → Q (.ref p) H') : te σ H Q := h H (Same.refl _) Q k
theorem EN.use {Q : VK} (h : EN te σ H xs) (k : ∀ p H', H p = none → Same H H' → H' p = some (.lst xs) → Q (.ref p) H') : te σ H Q := h H (Same.refl _) Q k
theorem EI.use {Q : VK} (h : EI te σ H v) (k : Q v H) : te σ H Q := h H (Same.refl _) Q k
end
/-- defaults: what is bound where keywords give the rest -/
theorem kb_one {K : PySem.W.Frag} {x qual : Str} {params : Arguments} {body : List Stmt} {scope : Scope} {dvs : List V} {f : Addr} {fd : FuncData} {ps : List Str} (F : FunD K x qual params body scope dvs [] f fd) (n : Nat) (ks : List Str) (hd : dvs ≠ [])
    (h : ∀ (T : Addr) (kV doc pm : Value) (an : Option Addr) (cdv ct : Value) (us ws its : List Value), us.length = n → ws.length = ks.length → its.length = dvs.length →
      ∃ k, bindArgs (PySem.W.fnOf x qual params body scope (.ref T) kV doc pm an cdv ct) ⟨us, ks.zip ws⟩ = seqItems? (.ref T) >>= k ∧ k (some its.toArray) = pure (ps.zip (us ++ ws))) :
    KBn K fd ps n ks (fun us ws => us ++ ws) (fun vs zs => vs ++ zs) := by
  obtain ⟨oc, od, dV, kV, doc, pm, an, cdv, ct, osl, rfl, lk, hcd, hD, hK⟩ := F.ex
  rcases hD with ⟨e, _⟩ | ⟨_, T, o, its, m, rfl, lT, oT, rT⟩
  · exact absurd e hd
  · refine ⟨fun s us ws X h1 h2 => BindsTo.of_looks fun M => ?_, fun r1 r2 => r1.append r2⟩
    obtain ⟨k, e1, e2⟩ := h T kV doc pm an cdv ct us ws its h1 h2 rT.length.symm
    rw [e1]
    exact looks_items X lT oT (.of_pure e2)
theorem andV_use {ta tb : TE} {σ : L2.St} {H : Hp} {Q : VK} {x y : Bool} (h1 : EI ta σ H (.bl x)) (h2 : x = true → ∀ Q' : VK, (∀ H', Same H H' → Q' (.bl y) H') → tb σ H Q') (k : ∀ H', Same H H' → Q (.bl (x && y)) H') : tAndV ta tb σ H Q := by
  refine h1 H (Same.refl _) _ ⟨x, rfl, ?_⟩
  cases x with
  | true => exact (if_pos rfl).mpr (h2 rfl _ k)
  | false => exact (if_neg Bool.false_ne_true).mpr (k H (Same.refl _))
/-- what is locked and let go stands as it stood -/
theorem unlock {H H' : Hp} {d : Addr} {od : Obj} {u : HO} (e : H d = some u) (s : Same (upd H d (.frz od u)) H') : Same H (upd H' d u) := fun b o h => by
  by_cases hb : b = d
  · subst hb
    rw [upd_same, ← e]
    exact h
  · rw [upd_ne hb]
    exact s b o (by rw [upd_ne hb]; exact h)
theorem take_filter {α : Type} {l : List α} {i : Nat} {x : α} (f : α → Bool) (h : l[i]? = some x) : (l.take (i + 1)).filter f = (l.take i).filter f ++ if f x then [x] else [] := by
  rw [take_more h, List.filter_append]
  cases e : f x <;> simp [e]
/-- [e for k in d if t] over the keys of a dict, t and e change nothing -/
theorem lc_keys {td te : TE} {tt : TT} {s : Nat} {σ : L2.St} {H : Hp} {Q : VK} (d : Addr) (kvs : List (Key × V)) (f : Key → Bool) (g : Key → V) (e : H d = some (.dK kvs)) (hlen : kvs.length ≤ 90000)
    (htd : ∀ od, EI td σ (upd H d (.frz od (.dK kvs))) (.ref d))
    (hw : ∀ x, wipe ((wipe σ [s]).set s (some x)) [s] = wipe σ [s])
    (ht : ∀ (od : Obj) (i : Nat) (k : Key) (v : V) (G : Hp) (Q' : Bool → Hp → Prop), kvs[i]? = some (k, v) → Same (upd H d (.frz od (.dK kvs))) G → Q' (f k) G → tt ((wipe σ [s]).set s (some (kV k))) G Q')
    (he : ∀ (od : Obj) (i : Nat) (k : Key) (v : V) (G : Hp) (Q' : VK), kvs[i]? = some (k, v) → Same (upd H d (.frz od (.dK kvs))) G → Q' (g k) G → te ((wipe σ [s]).set s (some (kV k))) G Q')
    (k : ∀ D H', H D = none → Same H H' → H' D = some (.lst ((kvs.filter fun kv => f kv.1).map fun kv => g kv.1)) → Q (.ref D) H') : tLockE (tLc (iKeys td) (gName s) tt te [s]) σ H Q := by
  refine ⟨d, _, e, trivial, fun od => htd od _ (Same.refl _) _ ⟨d, od, rfl, .inl ⟨kvs, upd_same, fun D hD => ?_⟩⟩⟩
  have nD : D ≠ d := fun z => by rw [z, upd_same] at hD; cases hD
  have hD0 : H D = none := by rw [upd_ne nD] at hD; exact hD
  refine lc_it walk_keys (fun i G => Same (upd H d (.frz od (.dK kvs))) G ∧ G D = some (.lst (((kvs.take i).filter fun kv => f kv.1).map fun kv => g kv.1)))
    ⟨same_upd hD, upd_same⟩ (fun i G _ h => h.1 _ _ upd_same) (fun i x G G' hi hG hy => ?_) (fun G hG => ?_)
  · obtain ⟨rfl, key, v, hkv, rfl⟩ := hy
    have hfl : ((kvs.take i).filter fun kv => f kv.1).length ≤ 90000 := Nat.le_trans (List.length_filter_le _ _) (by rw [List.length_take]; omega)
    refine ⟨hw _, ht od i key v _ _ hkv hG.1 ?_⟩
    have hts := take_filter (fun kv : Key × V => f kv.1) hkv
    cases hf : f key with
    | true =>
      refine (if_pos rfl).mpr (he od i key v _ _ hkv hG.1 ⟨_, hG.2, szl (by rw [List.length_map]; omega), same_put hG.1 hD, ?_⟩)
      rw [upd_same, hts, List.map_append]
      simp only [hf, if_true]
      rfl
    | false =>
      refine (if_neg Bool.false_ne_true).mpr ⟨hG.1, ?_⟩
      rw [hts]
      simp only [hf, Bool.false_eq_true, if_false, List.append_nil]
      exact hG.2
  · rw [List.take_length] at hG
    refine ⟨hG.1 _ _ upd_same, k D _ hD0 (unlock e hG.1) ?_⟩
    rw [upd_ne nD]
    exact hG.2
theorem put_fresh {kvs : List (Key × V)} {k : Key} {v : V} (h : ∀ kv ∈ kvs, kv.1 ≠ k) : putK kvs k v = kvs ++ [(k, v)] := by
  unfold putK
  rw [if_neg]
  intro z
  obtain ⟨kv, hm, hk⟩ := List.any_eq_true.mp z
  exact h kv hm (of_decide_eq_true hk)
theorem nd_ne {α β : Type} {l : List (α × β)} {i : Nat} {x : α × β} (nd : (l.map (·.1)).Nodup) (h : l[i]? = some x) : ∀ y ∈ l.take i, y.1 ≠ x.1 := fun y hy z => by
  obtain ⟨j, hj, rfl⟩ := List.getElem_of_mem hy
  rw [List.length_take] at hj
  rw [List.getElem_take] at z
  obtain ⟨hi, rfl⟩ := List.getElem?_eq_some_iff.mp h
  have e1 : (l.map (·.1))[j]? = some l[i].1 := by rw [List.getElem?_map, List.getElem?_eq_getElem (by omega), ← z]; rfl
  have e2 : (l.map (·.1))[i]? = some l[i].1 := by rw [List.getElem?_map, List.getElem?_eq_getElem hi]; rfl
  have := nd_ix nd e1 e2
  omega
/-- {k: e for k in d if t} over the keys of a dict -/
theorem dc_keys {td tv : TE} {tt : TT} {s : Nat} {σ : L2.St} {H : Hp} {Q : VK} (d : Addr) (kvs : List (Key × V)) (f : Key → Bool) (g : Key × V → V) (e : H d = some (.dK kvs)) (hlen : kvs.length ≤ 90000) (nd : (kvs.map (·.1)).Nodup)
    (htd : ∀ od, EI td σ (upd H d (.frz od (.dK kvs))) (.ref d))
    (hw : ∀ x, wipe ((wipe σ [s]).set s (some x)) [s] = wipe σ [s])
    (ht : ∀ (od : Obj) (i : Nat) (k : Key) (v : V) (G : Hp) (Q' : Bool → Hp → Prop), kvs[i]? = some (k, v) → Same (upd H d (.frz od (.dK kvs))) G → Q' (f k) G → tt ((wipe σ [s]).set s (some (kV k))) G Q')
    (he : ∀ (od : Obj) (i : Nat) (k : Key) (v : V) (G : Hp) (Q' : VK), kvs[i]? = some (k, v) → f k = true → Same (upd H d (.frz od (.dK kvs))) G → Q' (g (k, v)) G → tv ((wipe σ [s]).set s (some (kV k))) G Q')
    (hn : ∀ i, (wipe σ [s]).length = i → s < i)
    (k : ∀ D H', H D = none → Same H H' → H' D = some (.dK ((kvs.filter fun kv => f kv.1).map fun kv => (kv.1, g kv))) → Q (.ref D) H') : tLockE (tDc (iKeys td) (gName s) tt (tVar s) tv [s]) σ H Q := by
  have hs : s < (wipe σ [s]).length := hn _ rfl
  refine ⟨d, _, e, trivial, fun od => htd od _ (Same.refl _) _ ⟨d, od, rfl, .inl ⟨kvs, upd_same, fun D hD => ?_⟩⟩⟩
  have nD : D ≠ d := fun z => by rw [z, upd_same] at hD; cases hD
  have hD0 : H D = none := by rw [upd_ne nD] at hD; exact hD
  let Pv : Nat → Hp → Prop := fun i G => Same (upd H d (.frz od (.dK kvs))) G ∧ G D = some (.dK (((kvs.take i).filter fun kv => f kv.1).map fun kv => (kv.1, g kv)))
  have step : ∀ i x G G', i < kvs.length → Pv i G → (G' = G ∧ ∃ k v, kvs[i]? = some (k, v) ∧ x = kV k) → gName s x (wipe σ [s]) G' fun σ2 H2 => wipe σ2 [s] = wipe σ [s] ∧ tt σ2 H2 fun b H3 =>
      if b = true then tVar s σ2 H3 fun y H4 => tv σ2 H4 fun z H5 => ∃ kvs' k', y = kV k' ∧ H5 D = some (.dK kvs') ∧ kvs'.length < sizeLine ∧ Pv (i + 1) (upd H5 D (.dK (putK kvs' k' z))) else Pv (i + 1) H3 := fun i x G G' hi hG hy => by
    obtain ⟨rfl, key, v, hkv, rfl⟩ := hy
    have hfl : ((kvs.take i).filter fun kv => f kv.1).length ≤ 90000 := Nat.le_trans (List.length_filter_le _ _) (by rw [List.length_take]; omega)
    refine ⟨hw _, ht od i key v _ _ hkv hG.1 ?_⟩
    have hts := take_filter (fun kv : Key × V => f kv.1) hkv
    cases hf : f key with
    | true =>
      refine (if_pos rfl).mpr ⟨kV key, by rw [List.getElem?_set_self hs], he od i key v _ _ hkv hf hG.1 ⟨_, key, rfl, hG.2, szl (by rw [List.length_map]; omega), same_put hG.1 hD, ?_⟩⟩
      rw [upd_same, hts, List.map_append, put_fresh]
      · simp only [hf, if_true]
        rfl
      · intro kv hm
        obtain ⟨y, hy, rfl⟩ := List.mem_map.mp hm
        exact nd_ne nd hkv y (List.mem_filter.mp hy).1
    | false =>
      refine (if_neg Bool.false_ne_true).mpr ⟨hG.1, ?_⟩
      rw [hts]
      simp only [hf, Bool.false_eq_true, if_false, List.append_nil]
      exact hG.2
  refine ⟨fun i m G => m = kvs.length - i ∧ i ≤ kvs.length ∧ Pv i G, ⟨kvs.length, by simp, Nat.zero_le _, same_upd hD, upd_same⟩, ?_⟩
  rintro i m G ⟨rfl, hi, hP⟩
  by_cases hlt : i < kvs.length
  · exact .inr ⟨⟨hP.1 _ _ upd_same, hlt⟩, Pv (i + 1), fun G' p' => ⟨kvs.length - (i + 1), by omega, rfl, hlt, p'⟩, fun x G' y => step i x G G' hlt hP y⟩
  · have ei : i = kvs.length := by omega
    subst ei
    obtain ⟨h1, h2⟩ := hP
    rw [List.take_length] at h2
    refine .inl ⟨⟨h1 _ _ upd_same, Nat.le_refl _⟩, h1 _ _ upd_same, k D _ hD0 (unlock e h1) ?_⟩
    rw [upd_ne nD]
    exact h2
end My
local macro_rules | `(tactic| walk_at "go") => `(tactic| try dsimp only [L2.gName, L2.tSeq, L2.tAsg, L2.tNext, L2.tDrop])
namespace My
open PySem PySem.Spec PyProof.Rows L2
def topS (i : Nat) : Stmt := PySem.Challenge.pw_majordomo_k44_work_queue_by_model.main.body.getD i (.Pass ⟨0, 0, 0, 0⟩)
abbrev s_NotTaken___init__ : Stmt := (inClass (topS 3) 0)
theorem sc_NotTaken___init__ : FnScope ["self", "key"] ["self", "key"] (defScope s_NotTaken___init__) := ⟨rfl, rfl, rfl, by decide +kernel, rfl, by decide +kernel, by decide +kernel⟩
abbrev s_WorkQueue___init__ : Stmt := (inClass (topS 5) 0)
theorem sc_WorkQueue___init__ : FnScope ["self", "most"] ["self", "most"] (defScope s_WorkQueue___init__) := ⟨rfl, rfl, rfl, by decide +kernel, rfl, by decide +kernel, by decide +kernel⟩
abbrev s_WorkQueue_add : Stmt := (inClass (topS 5) 1)
theorem sc_WorkQueue_add : FnScope ["self", "key"] ["self", "key"] (defScope s_WorkQueue_add) := ⟨rfl, rfl, rfl, by decide +kernel, rfl, by decide +kernel, by decide +kernel⟩
abbrev s_WorkQueue_add_later : Stmt := (inClass (topS 5) 2)
theorem sc_WorkQueue_add_later : FnScope ["self", "key", "ticks"] ["self", "key", "ticks"] (defScope s_WorkQueue_add_later) := ⟨rfl, rfl, rfl, by decide +kernel, rfl, by decide +kernel, by decide +kernel⟩
abbrev s_WorkQueue_tick : Stmt := (inClass (topS 5) 3)
theorem sc_WorkQueue_tick : FnScope ["self", "ended", "key"] ["self"] (defScope s_WorkQueue_tick) := ⟨rfl, rfl, rfl, by decide +kernel, rfl, by decide +kernel, by decide +kernel⟩
abbrev s_WorkQueue_take : Stmt := (inClass (topS 5) 4)
theorem sc_WorkQueue_take : FnScope ["self", "key"] ["self"] (defScope s_WorkQueue_take) := ⟨rfl, rfl, rfl, by decide +kernel, rfl, by decide +kernel, by decide +kernel⟩
abbrev s_WorkQueue_finish : Stmt := (inClass (topS 5) 5)
theorem sc_WorkQueue_finish : FnScope ["self", "key", "comes_again"] ["self", "key"] (defScope s_WorkQueue_finish) := ⟨rfl, rfl, rfl, by decide +kernel, rfl, by decide +kernel, by decide +kernel⟩
abbrev s_WorkQueue_fail : Stmt := (inClass (topS 5) 6)
theorem sc_WorkQueue_fail : FnScope ["self", "key", "comes_again"] ["self", "key"] (defScope s_WorkQueue_fail) := ⟨rfl, rfl, rfl, by decide +kernel, rfl, by decide +kernel, by decide +kernel⟩
abbrev s_WorkQueue__leave : Stmt := (inClass (topS 5) 7)
theorem sc_WorkQueue__leave : FnScope ["self", "key"] ["self", "key"] (defScope s_WorkQueue__leave) := ⟨rfl, rfl, rfl, by decide +kernel, rfl, by decide +kernel, by decide +kernel⟩
abbrev s_WorkQueue__delay : Stmt := (inClass (topS 5) 8)
theorem sc_WorkQueue__delay : FnScope ["self", "key", "delay", "failures"] ["self", "key"] (defScope s_WorkQueue__delay) := ⟨rfl, rfl, rfl, by decide +kernel, rfl, by decide +kernel, by decide +kernel⟩
abbrev s_WorkQueue_waiting : Stmt := (inClass (topS 5) 9)
theorem sc_WorkQueue_waiting : FnScope ["self"] ["self"] (defScope s_WorkQueue_waiting) := ⟨rfl, rfl, rfl, by decide +kernel, rfl, by decide +kernel, by decide +kernel⟩
abbrev s_WorkQueue_in_work : Stmt := (inClass (topS 5) 10)
theorem sc_WorkQueue_in_work : FnScope ["self"] ["self"] (defScope s_WorkQueue_in_work) := ⟨rfl, rfl, rfl, by decide +kernel, rfl, by decide +kernel, by decide +kernel⟩
abbrev s_WorkQueue_delayed : Stmt := (inClass (topS 5) 11)
theorem sc_WorkQueue_delayed : FnScope ["self", "key"] ["self"] (defScope s_WorkQueue_delayed) := ⟨rfl, rfl, rfl, by decide +kernel, rfl, by decide +kernel, by decide +kernel⟩
abbrev s_WorkQueue_failures : Stmt := (inClass (topS 5) 12)
theorem sc_WorkQueue_failures : FnScope ["self", "key"] ["self", "key"] (defScope s_WorkQueue_failures) := ⟨rfl, rfl, rfl, by decide +kernel, rfl, by decide +kernel, by decide +kernel⟩
abbrev s__law_mix : Stmt := (topS 7)
theorem sc__law_mix : FnScope ["cell", "k", "low"] ["cell", "k"] (defScope s__law_mix) := ⟨rfl, rfl, rfl, by decide +kernel, rfl, by decide +kernel, by decide +kernel⟩
abbrev s__law_row : Stmt := (topS 8)
theorem sc__law_row : FnScope ["script", "most", "row", "k", "rest", "j"] ["script", "most"] (defScope s__law_row) := ⟨rfl, rfl, rfl, by decide +kernel, rfl, by decide +kernel, by decide +kernel⟩
abbrev s__law_key : Stmt := (topS 9)
theorem sc__law_key : FnScope ["number", "keys"] ["number"] (defScope s__law_key) := ⟨rfl, rfl, rfl, by decide +kernel, rfl, by decide +kernel, by decide +kernel⟩
abbrev s__law_add : Stmt := (topS 10)
theorem sc__law_add : FnScope ["waiting", "work", "again", "delayed", "key"] ["waiting", "work", "again", "delayed", "key"] (defScope s__law_add) := ⟨rfl, rfl, rfl, by decide +kernel, rfl, by decide +kernel, by decide +kernel⟩
abbrev s__law_add_later : Stmt := (topS 11)
theorem sc__law_add_later : FnScope ["waiting", "work", "again", "delayed", "key", "ticks"] ["waiting", "work", "again", "delayed", "key", "ticks"] (defScope s__law_add_later) := ⟨rfl, rfl, rfl, by decide +kernel, rfl, by decide +kernel, by decide +kernel⟩
abbrev s__law_delay : Stmt := (topS 12)
theorem sc__law_delay : FnScope ["count", "most", "ticks", "k"] ["count", "most"] (defScope s__law_delay) := ⟨rfl, rfl, rfl, by decide +kernel, rfl, by decide +kernel, by decide +kernel⟩
abbrev s__law_leave : Stmt := (topS 13)
theorem sc__law_leave : FnScope ["waiting", "work", "again", "delayed", "failures", "most", "key", "failed"] ["waiting", "work", "again", "delayed", "failures", "most", "key", "failed"] (defScope s__law_leave) := ⟨rfl, rfl, rfl, by decide +kernel, rfl, by decide +kernel, by decide +kernel⟩
abbrev s__law_tick : Stmt := (topS 14)
theorem sc__law_tick : FnScope ["waiting", "work", "again", "delayed", "due", "key"] ["waiting", "work", "again", "delayed"] (defScope s__law_tick) := ⟨rfl, rfl, rfl, by decide +kernel, rfl, by decide +kernel, by decide +kernel⟩
abbrev s__law_refused : Stmt := (topS 15)
theorem sc__law_refused : FnScope ["queue", "key", "failed", "e"] ["queue", "key", "failed"] (defScope s__law_refused) := ⟨rfl, rfl, rfl, by decide +kernel, rfl, by decide +kernel, by decide +kernel⟩
abbrev s__law_same : Stmt := (topS 16)
theorem sc__law_same : FnScope ["queue", "waiting", "work", "delayed", "failures", "told", "pairs", "k", "key"] ["queue", "waiting", "work", "delayed", "failures"] (defScope s__law_same) := ⟨rfl, rfl, rfl, by decide +kernel, rfl, by decide +kernel, by decide +kernel⟩
abbrev s__law_report : Stmt := (topS 17)
theorem sc__law_report : FnScope ["queue", "waiting", "work", "again", "delayed", "failures", "most", "key", "failed", "told"] ["queue", "waiting", "work", "again", "delayed", "failures", "most", "key", "failed"] (defScope s__law_report) := ⟨rfl, rfl, rfl, by decide +kernel, rfl, by decide +kernel, by decide +kernel⟩
abbrev s__law_deed : Stmt := (topS 18)
theorem sc__law_deed : FnScope ["queue", "waiting", "work", "again", "delayed", "failures", "most", "number", "key", "deed", "ticks", "due"] ["queue", "waiting", "work", "again", "delayed", "failures", "most", "number"] (defScope s__law_deed) := ⟨rfl, rfl, rfl, by decide +kernel, rfl, by decide +kernel, by decide +kernel⟩
abbrev s_law : Stmt := (topS 19)
theorem sc_law : FnScope ["script", "most", "queue", "waiting", "work", "again", "delayed", "failures", "number", "other"] ["script"] (defScope s_law) := ⟨rfl, rfl, rfl, by decide +kernel, rfl, by decide +kernel, by decide +kernel⟩

structure TX (K : PySem.W.Frag) (mg : Str → Option Value) where
  a_MajordomoError : Addr
  g_MajordomoError : mg "MajordomoError" = some (.ref a_MajordomoError)
  x_MajordomoError : PySem.W.excIn K a_MajordomoError [.type "ValueError", .type "Exception", .type "BaseException", .type "object"] "ValueError.__new__" = true
  k_MajordomoError : PySem.W.keepIn K (.ref a_MajordomoError) = true
  s_MajordomoError : PySem.W.subIn K (.ref a_MajordomoError) (.type "BaseException") = some true
  t_MajordomoError : PySem.W.typeIn K (.ref a_MajordomoError) = some (.type "type")
  a_CallerError : Addr
  g_CallerError : mg "CallerError" = some (.ref a_CallerError)
  x_CallerError : PySem.W.excIn K a_CallerError [.type "ValueError", .type "Exception", .type "BaseException", .type "object"] "ValueError.__new__" = true
  k_CallerError : PySem.W.keepIn K (.ref a_CallerError) = true
  s_CallerError : PySem.W.subIn K (.ref a_CallerError) (.type "BaseException") = some true
  t_CallerError : PySem.W.typeIn K (.ref a_CallerError) = some (.type "type")
  a_NotTaken : Addr
  g_NotTaken : mg "NotTaken" = some (.ref a_NotTaken)
  k_NotTaken : PySem.W.keepIn K (.ref a_NotTaken) = true
  s_NotTaken : PySem.W.subIn K (.ref a_NotTaken) (.type "BaseException") = some true
  t_NotTaken : PySem.W.typeIn K (.ref a_NotTaken) = some (.type "type")
  ee_NotTaken : PySem.W.exmOne K (.ref a_NotTaken) (.ref a_NotTaken) = some true
  a_WorkQueue : Addr
  X_NotTaken : ExcC K a_NotTaken
  y_NotTaken_MajordomoError : PySem.W.kitOne K (.ref a_NotTaken) (.ref a_MajordomoError) = some true
  a_NotTaken___init__ : Addr
  d_NotTaken___init__ : FuncData
  F_NotTaken___init__ : Fun K "__init__" "NotTaken.__init__" s_NotTaken___init__ a_NotTaken___init__ d_NotTaken___init__
  b_NotTaken___init__ : Binds K d_NotTaken___init__ ["self", "key"] []
  a_WorkQueue___init__ : Addr
  d_WorkQueue___init__ : FuncData
  FD_WorkQueue___init__ : FunD K "__init__" "WorkQueue.__init__" (defArgs s_WorkQueue___init__) (defBody s_WorkQueue___init__) (defScope s_WorkQueue___init__) [] [("most", .int 8)] a_WorkQueue___init__ d_WorkQueue___init__
  bD_WorkQueue___init__ : ∃ ds, Vals (([.int 8] : List V)) ds ∧ Binds K d_WorkQueue___init__ ["self", "most"] ds
  kb_WorkQueue___init__ : ∃ mv : List Value, KBn K d_WorkQueue___init__ ["self", "most"] 1 ["most"] (fun us ws => us ++ (mv ++ ws)) (fun vs zs => vs ++ ([] ++ zs))
  a_WorkQueue_add : Addr
  d_WorkQueue_add : FuncData
  F_WorkQueue_add : Fun K "add" "WorkQueue.add" s_WorkQueue_add a_WorkQueue_add d_WorkQueue_add
  b_WorkQueue_add : Binds K d_WorkQueue_add ["self", "key"] []
  m_WorkQueue_add : Meth K a_WorkQueue "add" a_WorkQueue_add
  a_WorkQueue_add_later : Addr
  d_WorkQueue_add_later : FuncData
  F_WorkQueue_add_later : Fun K "add_later" "WorkQueue.add_later" s_WorkQueue_add_later a_WorkQueue_add_later d_WorkQueue_add_later
  b_WorkQueue_add_later : Binds K d_WorkQueue_add_later ["self", "key", "ticks"] []
  m_WorkQueue_add_later : Meth K a_WorkQueue "add_later" a_WorkQueue_add_later
  a_WorkQueue_tick : Addr
  d_WorkQueue_tick : FuncData
  F_WorkQueue_tick : Fun K "tick" "WorkQueue.tick" s_WorkQueue_tick a_WorkQueue_tick d_WorkQueue_tick
  b_WorkQueue_tick : Binds K d_WorkQueue_tick ["self"] []
  m_WorkQueue_tick : Meth K a_WorkQueue "tick" a_WorkQueue_tick
  a_WorkQueue_take : Addr
  d_WorkQueue_take : FuncData
  F_WorkQueue_take : Fun K "take" "WorkQueue.take" s_WorkQueue_take a_WorkQueue_take d_WorkQueue_take
  b_WorkQueue_take : Binds K d_WorkQueue_take ["self"] []
  m_WorkQueue_take : Meth K a_WorkQueue "take" a_WorkQueue_take
  a_WorkQueue_finish : Addr
  d_WorkQueue_finish : FuncData
  F_WorkQueue_finish : Fun K "finish" "WorkQueue.finish" s_WorkQueue_finish a_WorkQueue_finish d_WorkQueue_finish
  b_WorkQueue_finish : Binds K d_WorkQueue_finish ["self", "key"] []
  m_WorkQueue_finish : Meth K a_WorkQueue "finish" a_WorkQueue_finish
  a_WorkQueue_fail : Addr
  d_WorkQueue_fail : FuncData
  F_WorkQueue_fail : Fun K "fail" "WorkQueue.fail" s_WorkQueue_fail a_WorkQueue_fail d_WorkQueue_fail
  b_WorkQueue_fail : Binds K d_WorkQueue_fail ["self", "key"] []
  m_WorkQueue_fail : Meth K a_WorkQueue "fail" a_WorkQueue_fail
  a_WorkQueue__leave : Addr
  d_WorkQueue__leave : FuncData
  F_WorkQueue__leave : Fun K "_leave" "WorkQueue._leave" s_WorkQueue__leave a_WorkQueue__leave d_WorkQueue__leave
  b_WorkQueue__leave : Binds K d_WorkQueue__leave ["self", "key"] []
  m_WorkQueue__leave : Meth K a_WorkQueue "_leave" a_WorkQueue__leave
  a_WorkQueue__delay : Addr
  d_WorkQueue__delay : FuncData
  F_WorkQueue__delay : Fun K "_delay" "WorkQueue._delay" s_WorkQueue__delay a_WorkQueue__delay d_WorkQueue__delay
  b_WorkQueue__delay : Binds K d_WorkQueue__delay ["self", "key"] []
  m_WorkQueue__delay : Meth K a_WorkQueue "_delay" a_WorkQueue__delay
  a_WorkQueue_waiting : Addr
  d_WorkQueue_waiting : FuncData
  F_WorkQueue_waiting : Fun K "waiting" "WorkQueue.waiting" s_WorkQueue_waiting a_WorkQueue_waiting d_WorkQueue_waiting
  b_WorkQueue_waiting : Binds K d_WorkQueue_waiting ["self"] []
  m_WorkQueue_waiting : Meth K a_WorkQueue "waiting" a_WorkQueue_waiting
  a_WorkQueue_in_work : Addr
  d_WorkQueue_in_work : FuncData
  F_WorkQueue_in_work : Fun K "in_work" "WorkQueue.in_work" s_WorkQueue_in_work a_WorkQueue_in_work d_WorkQueue_in_work
  b_WorkQueue_in_work : Binds K d_WorkQueue_in_work ["self"] []
  m_WorkQueue_in_work : Meth K a_WorkQueue "in_work" a_WorkQueue_in_work
  a_WorkQueue_delayed : Addr
  d_WorkQueue_delayed : FuncData
  F_WorkQueue_delayed : Fun K "delayed" "WorkQueue.delayed" s_WorkQueue_delayed a_WorkQueue_delayed d_WorkQueue_delayed
  b_WorkQueue_delayed : Binds K d_WorkQueue_delayed ["self"] []
  m_WorkQueue_delayed : Meth K a_WorkQueue "delayed" a_WorkQueue_delayed
  a_WorkQueue_failures : Addr
  d_WorkQueue_failures : FuncData
  F_WorkQueue_failures : Fun K "failures" "WorkQueue.failures" s_WorkQueue_failures a_WorkQueue_failures d_WorkQueue_failures
  b_WorkQueue_failures : Binds K d_WorkQueue_failures ["self", "key"] []
  m_WorkQueue_failures : Meth K a_WorkQueue "failures" a_WorkQueue_failures
  a__law_mix : Addr
  d__law_mix : FuncData
  F__law_mix : Fun K "_law_mix" "_law_mix" s__law_mix a__law_mix d__law_mix
  b__law_mix : Binds K d__law_mix ["cell", "k"] []
  g__law_mix : mg "_law_mix" = some (.ref a__law_mix)
  a__law_row : Addr
  d__law_row : FuncData
  F__law_row : Fun K "_law_row" "_law_row" s__law_row a__law_row d__law_row
  b__law_row : Binds K d__law_row ["script", "most"] []
  g__law_row : mg "_law_row" = some (.ref a__law_row)
  a__law_key : Addr
  d__law_key : FuncData
  F__law_key : Fun K "_law_key" "_law_key" s__law_key a__law_key d__law_key
  b__law_key : Binds K d__law_key ["number"] []
  g__law_key : mg "_law_key" = some (.ref a__law_key)
  a__law_add : Addr
  d__law_add : FuncData
  F__law_add : Fun K "_law_add" "_law_add" s__law_add a__law_add d__law_add
  b__law_add : Binds K d__law_add ["waiting", "work", "again", "delayed", "key"] []
  g__law_add : mg "_law_add" = some (.ref a__law_add)
  a__law_add_later : Addr
  d__law_add_later : FuncData
  F__law_add_later : Fun K "_law_add_later" "_law_add_later" s__law_add_later a__law_add_later d__law_add_later
  b__law_add_later : Binds K d__law_add_later ["waiting", "work", "again", "delayed", "key", "ticks"] []
  g__law_add_later : mg "_law_add_later" = some (.ref a__law_add_later)
  a__law_delay : Addr
  d__law_delay : FuncData
  F__law_delay : Fun K "_law_delay" "_law_delay" s__law_delay a__law_delay d__law_delay
  b__law_delay : Binds K d__law_delay ["count", "most"] []
  g__law_delay : mg "_law_delay" = some (.ref a__law_delay)
  a__law_leave : Addr
  d__law_leave : FuncData
  F__law_leave : Fun K "_law_leave" "_law_leave" s__law_leave a__law_leave d__law_leave
  b__law_leave : Binds K d__law_leave ["waiting", "work", "again", "delayed", "failures", "most", "key", "failed"] []
  g__law_leave : mg "_law_leave" = some (.ref a__law_leave)
  a__law_tick : Addr
  d__law_tick : FuncData
  F__law_tick : Fun K "_law_tick" "_law_tick" s__law_tick a__law_tick d__law_tick
  b__law_tick : Binds K d__law_tick ["waiting", "work", "again", "delayed"] []
  g__law_tick : mg "_law_tick" = some (.ref a__law_tick)
  a__law_refused : Addr
  d__law_refused : FuncData
  F__law_refused : Fun K "_law_refused" "_law_refused" s__law_refused a__law_refused d__law_refused
  b__law_refused : Binds K d__law_refused ["queue", "key", "failed"] []
  g__law_refused : mg "_law_refused" = some (.ref a__law_refused)
  a__law_same : Addr
  d__law_same : FuncData
  F__law_same : Fun K "_law_same" "_law_same" s__law_same a__law_same d__law_same
  b__law_same : Binds K d__law_same ["queue", "waiting", "work", "delayed", "failures"] []
  g__law_same : mg "_law_same" = some (.ref a__law_same)
  a__law_report : Addr
  d__law_report : FuncData
  F__law_report : Fun K "_law_report" "_law_report" s__law_report a__law_report d__law_report
  b__law_report : Binds K d__law_report ["queue", "waiting", "work", "again", "delayed", "failures", "most", "key", "failed"] []
  g__law_report : mg "_law_report" = some (.ref a__law_report)
  a__law_deed : Addr
  d__law_deed : FuncData
  F__law_deed : Fun K "_law_deed" "_law_deed" s__law_deed a__law_deed d__law_deed
  b__law_deed : Binds K d__law_deed ["queue", "waiting", "work", "again", "delayed", "failures", "most", "number"] []
  g__law_deed : mg "_law_deed" = some (.ref a__law_deed)
  a_law : Addr
  d_law : FuncData
  F_law : Fun K "law" "law" s_law a_law d_law
  b_law : Binds K d_law ["script"] []
  g_law : mg "law" = some (.ref a_law)
  O_NotTaken : OexC K a_NotTaken
  iI_NotTaken : PySem.W.findIn K (.ref a_NotTaken) "__init__" = some (some (.ref a_NotTaken___init__))
  tI_NotTaken : PySem.W.typeIn K (.ref a_NotTaken___init__) = some (.type "function")
  XF_NotTaken : XfC K a_NotTaken
  na_NotTaken_key : PySem.W.findIn K (.ref a_NotTaken) "key" = some none
  K_WorkQueue : Cls K a_WorkQueue
  g_WorkQueue : mg "WorkQueue" = some (.ref a_WorkQueue)
  M_WorkQueue : Mk K a_WorkQueue a_WorkQueue___init__
  na_WorkQueue__most : NoAttr K a_WorkQueue "_most"
  na_WorkQueue__waiting : NoAttr K a_WorkQueue "_waiting"
  na_WorkQueue__working : NoAttr K a_WorkQueue "_working"
  na_WorkQueue__ticks : NoAttr K a_WorkQueue "_ticks"
  na_WorkQueue__failures : NoAttr K a_WorkQueue "_failures"
  n_list : mg "list" = none
  n_sorted : mg "sorted" = none
  n_min : mg "min" = none
  n_range : mg "range" = none
  n_int : mg "int" = none
  n_isinstance : mg "isinstance" = none
  n_len : mg "len" = none

theorem ne_WorkQueue__most__waiting : (Str.ofString "_most" == Str.ofString "_waiting") = false := by decide +kernel
theorem ne_WorkQueue__most__waiting_p : ¬ (Str.ofString "_most" = Str.ofString "_waiting") := by decide +kernel
theorem ne_WorkQueue__most__working : (Str.ofString "_most" == Str.ofString "_working") = false := by decide +kernel
theorem ne_WorkQueue__most__working_p : ¬ (Str.ofString "_most" = Str.ofString "_working") := by decide +kernel
theorem ne_WorkQueue__most__ticks : (Str.ofString "_most" == Str.ofString "_ticks") = false := by decide +kernel
theorem ne_WorkQueue__most__ticks_p : ¬ (Str.ofString "_most" = Str.ofString "_ticks") := by decide +kernel
theorem ne_WorkQueue__most__failures : (Str.ofString "_most" == Str.ofString "_failures") = false := by decide +kernel
theorem ne_WorkQueue__most__failures_p : ¬ (Str.ofString "_most" = Str.ofString "_failures") := by decide +kernel
theorem ne_WorkQueue__waiting__most : (Str.ofString "_waiting" == Str.ofString "_most") = false := by decide +kernel
theorem ne_WorkQueue__waiting__most_p : ¬ (Str.ofString "_waiting" = Str.ofString "_most") := by decide +kernel
theorem ne_WorkQueue__waiting__working : (Str.ofString "_waiting" == Str.ofString "_working") = false := by decide +kernel
theorem ne_WorkQueue__waiting__working_p : ¬ (Str.ofString "_waiting" = Str.ofString "_working") := by decide +kernel
theorem ne_WorkQueue__waiting__ticks : (Str.ofString "_waiting" == Str.ofString "_ticks") = false := by decide +kernel
theorem ne_WorkQueue__waiting__ticks_p : ¬ (Str.ofString "_waiting" = Str.ofString "_ticks") := by decide +kernel
theorem ne_WorkQueue__waiting__failures : (Str.ofString "_waiting" == Str.ofString "_failures") = false := by decide +kernel
theorem ne_WorkQueue__waiting__failures_p : ¬ (Str.ofString "_waiting" = Str.ofString "_failures") := by decide +kernel
theorem ne_WorkQueue__working__most : (Str.ofString "_working" == Str.ofString "_most") = false := by decide +kernel
theorem ne_WorkQueue__working__most_p : ¬ (Str.ofString "_working" = Str.ofString "_most") := by decide +kernel
theorem ne_WorkQueue__working__waiting : (Str.ofString "_working" == Str.ofString "_waiting") = false := by decide +kernel
theorem ne_WorkQueue__working__waiting_p : ¬ (Str.ofString "_working" = Str.ofString "_waiting") := by decide +kernel
theorem ne_WorkQueue__working__ticks : (Str.ofString "_working" == Str.ofString "_ticks") = false := by decide +kernel
theorem ne_WorkQueue__working__ticks_p : ¬ (Str.ofString "_working" = Str.ofString "_ticks") := by decide +kernel
theorem ne_WorkQueue__working__failures : (Str.ofString "_working" == Str.ofString "_failures") = false := by decide +kernel
theorem ne_WorkQueue__working__failures_p : ¬ (Str.ofString "_working" = Str.ofString "_failures") := by decide +kernel
theorem ne_WorkQueue__ticks__most : (Str.ofString "_ticks" == Str.ofString "_most") = false := by decide +kernel
theorem ne_WorkQueue__ticks__most_p : ¬ (Str.ofString "_ticks" = Str.ofString "_most") := by decide +kernel
theorem ne_WorkQueue__ticks__waiting : (Str.ofString "_ticks" == Str.ofString "_waiting") = false := by decide +kernel
theorem ne_WorkQueue__ticks__waiting_p : ¬ (Str.ofString "_ticks" = Str.ofString "_waiting") := by decide +kernel
theorem ne_WorkQueue__ticks__working : (Str.ofString "_ticks" == Str.ofString "_working") = false := by decide +kernel
theorem ne_WorkQueue__ticks__working_p : ¬ (Str.ofString "_ticks" = Str.ofString "_working") := by decide +kernel
theorem ne_WorkQueue__ticks__failures : (Str.ofString "_ticks" == Str.ofString "_failures") = false := by decide +kernel
theorem ne_WorkQueue__ticks__failures_p : ¬ (Str.ofString "_ticks" = Str.ofString "_failures") := by decide +kernel
theorem ne_WorkQueue__failures__most : (Str.ofString "_failures" == Str.ofString "_most") = false := by decide +kernel
theorem ne_WorkQueue__failures__most_p : ¬ (Str.ofString "_failures" = Str.ofString "_most") := by decide +kernel
theorem ne_WorkQueue__failures__waiting : (Str.ofString "_failures" == Str.ofString "_waiting") = false := by decide +kernel
theorem ne_WorkQueue__failures__waiting_p : ¬ (Str.ofString "_failures" = Str.ofString "_waiting") := by decide +kernel
theorem ne_WorkQueue__failures__working : (Str.ofString "_failures" == Str.ofString "_working") = false := by decide +kernel
theorem ne_WorkQueue__failures__working_p : ¬ (Str.ofString "_failures" = Str.ofString "_working") := by decide +kernel
theorem ne_WorkQueue__failures__ticks : (Str.ofString "_failures" == Str.ofString "_ticks") = false := by decide +kernel
theorem ne_WorkQueue__failures__ticks_p : ¬ (Str.ofString "_failures" = Str.ofString "_ticks") := by decide +kernel
theorem ne_WorkQueue_add__most : (Str.ofString "add" == Str.ofString "_most") = false := by decide +kernel
theorem ne_WorkQueue_add__most_p : ¬ (Str.ofString "add" = Str.ofString "_most") := by decide +kernel
theorem ne_WorkQueue_add__waiting : (Str.ofString "add" == Str.ofString "_waiting") = false := by decide +kernel
theorem ne_WorkQueue_add__waiting_p : ¬ (Str.ofString "add" = Str.ofString "_waiting") := by decide +kernel
theorem ne_WorkQueue_add__working : (Str.ofString "add" == Str.ofString "_working") = false := by decide +kernel
theorem ne_WorkQueue_add__working_p : ¬ (Str.ofString "add" = Str.ofString "_working") := by decide +kernel
theorem ne_WorkQueue_add__ticks : (Str.ofString "add" == Str.ofString "_ticks") = false := by decide +kernel
theorem ne_WorkQueue_add__ticks_p : ¬ (Str.ofString "add" = Str.ofString "_ticks") := by decide +kernel
theorem ne_WorkQueue_add__failures : (Str.ofString "add" == Str.ofString "_failures") = false := by decide +kernel
theorem ne_WorkQueue_add__failures_p : ¬ (Str.ofString "add" = Str.ofString "_failures") := by decide +kernel
theorem ne_WorkQueue_add_later__most : (Str.ofString "add_later" == Str.ofString "_most") = false := by decide +kernel
theorem ne_WorkQueue_add_later__most_p : ¬ (Str.ofString "add_later" = Str.ofString "_most") := by decide +kernel
theorem ne_WorkQueue_add_later__waiting : (Str.ofString "add_later" == Str.ofString "_waiting") = false := by decide +kernel
theorem ne_WorkQueue_add_later__waiting_p : ¬ (Str.ofString "add_later" = Str.ofString "_waiting") := by decide +kernel
theorem ne_WorkQueue_add_later__working : (Str.ofString "add_later" == Str.ofString "_working") = false := by decide +kernel
theorem ne_WorkQueue_add_later__working_p : ¬ (Str.ofString "add_later" = Str.ofString "_working") := by decide +kernel
theorem ne_WorkQueue_add_later__ticks : (Str.ofString "add_later" == Str.ofString "_ticks") = false := by decide +kernel
theorem ne_WorkQueue_add_later__ticks_p : ¬ (Str.ofString "add_later" = Str.ofString "_ticks") := by decide +kernel
theorem ne_WorkQueue_add_later__failures : (Str.ofString "add_later" == Str.ofString "_failures") = false := by decide +kernel
theorem ne_WorkQueue_add_later__failures_p : ¬ (Str.ofString "add_later" = Str.ofString "_failures") := by decide +kernel
theorem ne_WorkQueue_tick__most : (Str.ofString "tick" == Str.ofString "_most") = false := by decide +kernel
theorem ne_WorkQueue_tick__most_p : ¬ (Str.ofString "tick" = Str.ofString "_most") := by decide +kernel
theorem ne_WorkQueue_tick__waiting : (Str.ofString "tick" == Str.ofString "_waiting") = false := by decide +kernel
theorem ne_WorkQueue_tick__waiting_p : ¬ (Str.ofString "tick" = Str.ofString "_waiting") := by decide +kernel
theorem ne_WorkQueue_tick__working : (Str.ofString "tick" == Str.ofString "_working") = false := by decide +kernel
theorem ne_WorkQueue_tick__working_p : ¬ (Str.ofString "tick" = Str.ofString "_working") := by decide +kernel
theorem ne_WorkQueue_tick__ticks : (Str.ofString "tick" == Str.ofString "_ticks") = false := by decide +kernel
theorem ne_WorkQueue_tick__ticks_p : ¬ (Str.ofString "tick" = Str.ofString "_ticks") := by decide +kernel
theorem ne_WorkQueue_tick__failures : (Str.ofString "tick" == Str.ofString "_failures") = false := by decide +kernel
theorem ne_WorkQueue_tick__failures_p : ¬ (Str.ofString "tick" = Str.ofString "_failures") := by decide +kernel
theorem ne_WorkQueue_take__most : (Str.ofString "take" == Str.ofString "_most") = false := by decide +kernel
theorem ne_WorkQueue_take__most_p : ¬ (Str.ofString "take" = Str.ofString "_most") := by decide +kernel
theorem ne_WorkQueue_take__waiting : (Str.ofString "take" == Str.ofString "_waiting") = false := by decide +kernel
theorem ne_WorkQueue_take__waiting_p : ¬ (Str.ofString "take" = Str.ofString "_waiting") := by decide +kernel
theorem ne_WorkQueue_take__working : (Str.ofString "take" == Str.ofString "_working") = false := by decide +kernel
theorem ne_WorkQueue_take__working_p : ¬ (Str.ofString "take" = Str.ofString "_working") := by decide +kernel
theorem ne_WorkQueue_take__ticks : (Str.ofString "take" == Str.ofString "_ticks") = false := by decide +kernel
theorem ne_WorkQueue_take__ticks_p : ¬ (Str.ofString "take" = Str.ofString "_ticks") := by decide +kernel
theorem ne_WorkQueue_take__failures : (Str.ofString "take" == Str.ofString "_failures") = false := by decide +kernel
theorem ne_WorkQueue_take__failures_p : ¬ (Str.ofString "take" = Str.ofString "_failures") := by decide +kernel
theorem ne_WorkQueue_finish__most : (Str.ofString "finish" == Str.ofString "_most") = false := by decide +kernel
theorem ne_WorkQueue_finish__most_p : ¬ (Str.ofString "finish" = Str.ofString "_most") := by decide +kernel
theorem ne_WorkQueue_finish__waiting : (Str.ofString "finish" == Str.ofString "_waiting") = false := by decide +kernel
theorem ne_WorkQueue_finish__waiting_p : ¬ (Str.ofString "finish" = Str.ofString "_waiting") := by decide +kernel
theorem ne_WorkQueue_finish__working : (Str.ofString "finish" == Str.ofString "_working") = false := by decide +kernel
theorem ne_WorkQueue_finish__working_p : ¬ (Str.ofString "finish" = Str.ofString "_working") := by decide +kernel
theorem ne_WorkQueue_finish__ticks : (Str.ofString "finish" == Str.ofString "_ticks") = false := by decide +kernel
theorem ne_WorkQueue_finish__ticks_p : ¬ (Str.ofString "finish" = Str.ofString "_ticks") := by decide +kernel
theorem ne_WorkQueue_finish__failures : (Str.ofString "finish" == Str.ofString "_failures") = false := by decide +kernel
theorem ne_WorkQueue_finish__failures_p : ¬ (Str.ofString "finish" = Str.ofString "_failures") := by decide +kernel
theorem ne_WorkQueue_fail__most : (Str.ofString "fail" == Str.ofString "_most") = false := by decide +kernel
theorem ne_WorkQueue_fail__most_p : ¬ (Str.ofString "fail" = Str.ofString "_most") := by decide +kernel
theorem ne_WorkQueue_fail__waiting : (Str.ofString "fail" == Str.ofString "_waiting") = false := by decide +kernel
theorem ne_WorkQueue_fail__waiting_p : ¬ (Str.ofString "fail" = Str.ofString "_waiting") := by decide +kernel
theorem ne_WorkQueue_fail__working : (Str.ofString "fail" == Str.ofString "_working") = false := by decide +kernel
theorem ne_WorkQueue_fail__working_p : ¬ (Str.ofString "fail" = Str.ofString "_working") := by decide +kernel
theorem ne_WorkQueue_fail__ticks : (Str.ofString "fail" == Str.ofString "_ticks") = false := by decide +kernel
theorem ne_WorkQueue_fail__ticks_p : ¬ (Str.ofString "fail" = Str.ofString "_ticks") := by decide +kernel
theorem ne_WorkQueue_fail__failures : (Str.ofString "fail" == Str.ofString "_failures") = false := by decide +kernel
theorem ne_WorkQueue_fail__failures_p : ¬ (Str.ofString "fail" = Str.ofString "_failures") := by decide +kernel
theorem ne_WorkQueue__leave__most : (Str.ofString "_leave" == Str.ofString "_most") = false := by decide +kernel
theorem ne_WorkQueue__leave__most_p : ¬ (Str.ofString "_leave" = Str.ofString "_most") := by decide +kernel
theorem ne_WorkQueue__leave__waiting : (Str.ofString "_leave" == Str.ofString "_waiting") = false := by decide +kernel
theorem ne_WorkQueue__leave__waiting_p : ¬ (Str.ofString "_leave" = Str.ofString "_waiting") := by decide +kernel
theorem ne_WorkQueue__leave__working : (Str.ofString "_leave" == Str.ofString "_working") = false := by decide +kernel
theorem ne_WorkQueue__leave__working_p : ¬ (Str.ofString "_leave" = Str.ofString "_working") := by decide +kernel
theorem ne_WorkQueue__leave__ticks : (Str.ofString "_leave" == Str.ofString "_ticks") = false := by decide +kernel
theorem ne_WorkQueue__leave__ticks_p : ¬ (Str.ofString "_leave" = Str.ofString "_ticks") := by decide +kernel
theorem ne_WorkQueue__leave__failures : (Str.ofString "_leave" == Str.ofString "_failures") = false := by decide +kernel
theorem ne_WorkQueue__leave__failures_p : ¬ (Str.ofString "_leave" = Str.ofString "_failures") := by decide +kernel
theorem ne_WorkQueue__delay__most : (Str.ofString "_delay" == Str.ofString "_most") = false := by decide +kernel
theorem ne_WorkQueue__delay__most_p : ¬ (Str.ofString "_delay" = Str.ofString "_most") := by decide +kernel
theorem ne_WorkQueue__delay__waiting : (Str.ofString "_delay" == Str.ofString "_waiting") = false := by decide +kernel
theorem ne_WorkQueue__delay__waiting_p : ¬ (Str.ofString "_delay" = Str.ofString "_waiting") := by decide +kernel
theorem ne_WorkQueue__delay__working : (Str.ofString "_delay" == Str.ofString "_working") = false := by decide +kernel
theorem ne_WorkQueue__delay__working_p : ¬ (Str.ofString "_delay" = Str.ofString "_working") := by decide +kernel
theorem ne_WorkQueue__delay__ticks : (Str.ofString "_delay" == Str.ofString "_ticks") = false := by decide +kernel
theorem ne_WorkQueue__delay__ticks_p : ¬ (Str.ofString "_delay" = Str.ofString "_ticks") := by decide +kernel
theorem ne_WorkQueue__delay__failures : (Str.ofString "_delay" == Str.ofString "_failures") = false := by decide +kernel
theorem ne_WorkQueue__delay__failures_p : ¬ (Str.ofString "_delay" = Str.ofString "_failures") := by decide +kernel
theorem ne_WorkQueue_waiting__most : (Str.ofString "waiting" == Str.ofString "_most") = false := by decide +kernel
theorem ne_WorkQueue_waiting__most_p : ¬ (Str.ofString "waiting" = Str.ofString "_most") := by decide +kernel
theorem ne_WorkQueue_waiting__waiting : (Str.ofString "waiting" == Str.ofString "_waiting") = false := by decide +kernel
theorem ne_WorkQueue_waiting__waiting_p : ¬ (Str.ofString "waiting" = Str.ofString "_waiting") := by decide +kernel
theorem ne_WorkQueue_waiting__working : (Str.ofString "waiting" == Str.ofString "_working") = false := by decide +kernel
theorem ne_WorkQueue_waiting__working_p : ¬ (Str.ofString "waiting" = Str.ofString "_working") := by decide +kernel
theorem ne_WorkQueue_waiting__ticks : (Str.ofString "waiting" == Str.ofString "_ticks") = false := by decide +kernel
theorem ne_WorkQueue_waiting__ticks_p : ¬ (Str.ofString "waiting" = Str.ofString "_ticks") := by decide +kernel
theorem ne_WorkQueue_waiting__failures : (Str.ofString "waiting" == Str.ofString "_failures") = false := by decide +kernel
theorem ne_WorkQueue_waiting__failures_p : ¬ (Str.ofString "waiting" = Str.ofString "_failures") := by decide +kernel
theorem ne_WorkQueue_in_work__most : (Str.ofString "in_work" == Str.ofString "_most") = false := by decide +kernel
theorem ne_WorkQueue_in_work__most_p : ¬ (Str.ofString "in_work" = Str.ofString "_most") := by decide +kernel
theorem ne_WorkQueue_in_work__waiting : (Str.ofString "in_work" == Str.ofString "_waiting") = false := by decide +kernel
theorem ne_WorkQueue_in_work__waiting_p : ¬ (Str.ofString "in_work" = Str.ofString "_waiting") := by decide +kernel
theorem ne_WorkQueue_in_work__working : (Str.ofString "in_work" == Str.ofString "_working") = false := by decide +kernel
theorem ne_WorkQueue_in_work__working_p : ¬ (Str.ofString "in_work" = Str.ofString "_working") := by decide +kernel
theorem ne_WorkQueue_in_work__ticks : (Str.ofString "in_work" == Str.ofString "_ticks") = false := by decide +kernel
theorem ne_WorkQueue_in_work__ticks_p : ¬ (Str.ofString "in_work" = Str.ofString "_ticks") := by decide +kernel
theorem ne_WorkQueue_in_work__failures : (Str.ofString "in_work" == Str.ofString "_failures") = false := by decide +kernel
theorem ne_WorkQueue_in_work__failures_p : ¬ (Str.ofString "in_work" = Str.ofString "_failures") := by decide +kernel
theorem ne_WorkQueue_delayed__most : (Str.ofString "delayed" == Str.ofString "_most") = false := by decide +kernel
theorem ne_WorkQueue_delayed__most_p : ¬ (Str.ofString "delayed" = Str.ofString "_most") := by decide +kernel
theorem ne_WorkQueue_delayed__waiting : (Str.ofString "delayed" == Str.ofString "_waiting") = false := by decide +kernel
theorem ne_WorkQueue_delayed__waiting_p : ¬ (Str.ofString "delayed" = Str.ofString "_waiting") := by decide +kernel
theorem ne_WorkQueue_delayed__working : (Str.ofString "delayed" == Str.ofString "_working") = false := by decide +kernel
theorem ne_WorkQueue_delayed__working_p : ¬ (Str.ofString "delayed" = Str.ofString "_working") := by decide +kernel
theorem ne_WorkQueue_delayed__ticks : (Str.ofString "delayed" == Str.ofString "_ticks") = false := by decide +kernel
theorem ne_WorkQueue_delayed__ticks_p : ¬ (Str.ofString "delayed" = Str.ofString "_ticks") := by decide +kernel
theorem ne_WorkQueue_delayed__failures : (Str.ofString "delayed" == Str.ofString "_failures") = false := by decide +kernel
theorem ne_WorkQueue_delayed__failures_p : ¬ (Str.ofString "delayed" = Str.ofString "_failures") := by decide +kernel
theorem ne_WorkQueue_failures__most : (Str.ofString "failures" == Str.ofString "_most") = false := by decide +kernel
theorem ne_WorkQueue_failures__most_p : ¬ (Str.ofString "failures" = Str.ofString "_most") := by decide +kernel
theorem ne_WorkQueue_failures__waiting : (Str.ofString "failures" == Str.ofString "_waiting") = false := by decide +kernel
theorem ne_WorkQueue_failures__waiting_p : ¬ (Str.ofString "failures" = Str.ofString "_waiting") := by decide +kernel
theorem ne_WorkQueue_failures__working : (Str.ofString "failures" == Str.ofString "_working") = false := by decide +kernel
theorem ne_WorkQueue_failures__working_p : ¬ (Str.ofString "failures" = Str.ofString "_working") := by decide +kernel
theorem ne_WorkQueue_failures__ticks : (Str.ofString "failures" == Str.ofString "_ticks") = false := by decide +kernel
theorem ne_WorkQueue_failures__ticks_p : ¬ (Str.ofString "failures" = Str.ofString "_ticks") := by decide +kernel
theorem ne_WorkQueue_failures__failures : (Str.ofString "failures" == Str.ofString "_failures") = false := by decide +kernel
theorem ne_WorkQueue_failures__failures_p : ¬ (Str.ofString "failures" = Str.ofString "_failures") := by decide +kernel
/-- the attributes of a WorkQueue, in the order in which they are stored -/
def fl_WorkQueue (v0 v1 v2 v3 v4 : V) : List (Str × V) := [("_most", v0), ("_waiting", v1), ("_working", v2), ("_ticks", v3), ("_failures", v4)]
theorem fl_WorkQueue__most {v0 v1 v2 v3 v4 : V} : (fl_WorkQueue v0 v1 v2 v3 v4).lookup ("_most" : Str) = some v0 := by unfold fl_WorkQueue; simp [List.lookup, ne_WorkQueue__most__waiting, ne_WorkQueue__most__working, ne_WorkQueue__most__ticks, ne_WorkQueue__most__failures, ne_WorkQueue__waiting__most, ne_WorkQueue__waiting__working, ne_WorkQueue__waiting__ticks, ne_WorkQueue__waiting__failures, ne_WorkQueue__working__most, ne_WorkQueue__working__waiting, ne_WorkQueue__working__ticks, ne_WorkQueue__working__failures, ne_WorkQueue__ticks__most, ne_WorkQueue__ticks__waiting, ne_WorkQueue__ticks__working, ne_WorkQueue__ticks__failures, ne_WorkQueue__failures__most, ne_WorkQueue__failures__waiting, ne_WorkQueue__failures__working, ne_WorkQueue__failures__ticks, ne_WorkQueue_add__most, ne_WorkQueue_add__waiting, ne_WorkQueue_add__working, ne_WorkQueue_add__ticks, ne_WorkQueue_add__failures, ne_WorkQueue_add_later__most, ne_WorkQueue_add_later__waiting, ne_WorkQueue_add_later__working, ne_WorkQueue_add_later__ticks, ne_WorkQueue_add_later__failures, ne_WorkQueue_tick__most, ne_WorkQueue_tick__waiting, ne_WorkQueue_tick__working, ne_WorkQueue_tick__ticks, ne_WorkQueue_tick__failures, ne_WorkQueue_take__most, ne_WorkQueue_take__waiting, ne_WorkQueue_take__working, ne_WorkQueue_take__ticks, ne_WorkQueue_take__failures, ne_WorkQueue_finish__most, ne_WorkQueue_finish__waiting, ne_WorkQueue_finish__working, ne_WorkQueue_finish__ticks, ne_WorkQueue_finish__failures, ne_WorkQueue_fail__most, ne_WorkQueue_fail__waiting, ne_WorkQueue_fail__working, ne_WorkQueue_fail__ticks, ne_WorkQueue_fail__failures, ne_WorkQueue__leave__most, ne_WorkQueue__leave__waiting, ne_WorkQueue__leave__working, ne_WorkQueue__leave__ticks, ne_WorkQueue__leave__failures, ne_WorkQueue__delay__most, ne_WorkQueue__delay__waiting, ne_WorkQueue__delay__working, ne_WorkQueue__delay__ticks, ne_WorkQueue__delay__failures, ne_WorkQueue_waiting__most, ne_WorkQueue_waiting__waiting, ne_WorkQueue_waiting__working, ne_WorkQueue_waiting__ticks, ne_WorkQueue_waiting__failures, ne_WorkQueue_in_work__most, ne_WorkQueue_in_work__waiting, ne_WorkQueue_in_work__working, ne_WorkQueue_in_work__ticks, ne_WorkQueue_in_work__failures, ne_WorkQueue_delayed__most, ne_WorkQueue_delayed__waiting, ne_WorkQueue_delayed__working, ne_WorkQueue_delayed__ticks, ne_WorkQueue_delayed__failures, ne_WorkQueue_failures__most, ne_WorkQueue_failures__waiting, ne_WorkQueue_failures__working, ne_WorkQueue_failures__ticks, ne_WorkQueue_failures__failures, ne_WorkQueue__most__waiting_p, ne_WorkQueue__most__working_p, ne_WorkQueue__most__ticks_p, ne_WorkQueue__most__failures_p, ne_WorkQueue__waiting__most_p, ne_WorkQueue__waiting__working_p, ne_WorkQueue__waiting__ticks_p, ne_WorkQueue__waiting__failures_p, ne_WorkQueue__working__most_p, ne_WorkQueue__working__waiting_p, ne_WorkQueue__working__ticks_p, ne_WorkQueue__working__failures_p, ne_WorkQueue__ticks__most_p, ne_WorkQueue__ticks__waiting_p, ne_WorkQueue__ticks__working_p, ne_WorkQueue__ticks__failures_p, ne_WorkQueue__failures__most_p, ne_WorkQueue__failures__waiting_p, ne_WorkQueue__failures__working_p, ne_WorkQueue__failures__ticks_p, ne_WorkQueue_add__most_p, ne_WorkQueue_add__waiting_p, ne_WorkQueue_add__working_p, ne_WorkQueue_add__ticks_p, ne_WorkQueue_add__failures_p, ne_WorkQueue_add_later__most_p, ne_WorkQueue_add_later__waiting_p, ne_WorkQueue_add_later__working_p, ne_WorkQueue_add_later__ticks_p, ne_WorkQueue_add_later__failures_p, ne_WorkQueue_tick__most_p, ne_WorkQueue_tick__waiting_p, ne_WorkQueue_tick__working_p, ne_WorkQueue_tick__ticks_p, ne_WorkQueue_tick__failures_p, ne_WorkQueue_take__most_p, ne_WorkQueue_take__waiting_p, ne_WorkQueue_take__working_p, ne_WorkQueue_take__ticks_p, ne_WorkQueue_take__failures_p, ne_WorkQueue_finish__most_p, ne_WorkQueue_finish__waiting_p, ne_WorkQueue_finish__working_p, ne_WorkQueue_finish__ticks_p, ne_WorkQueue_finish__failures_p, ne_WorkQueue_fail__most_p, ne_WorkQueue_fail__waiting_p, ne_WorkQueue_fail__working_p, ne_WorkQueue_fail__ticks_p, ne_WorkQueue_fail__failures_p, ne_WorkQueue__leave__most_p, ne_WorkQueue__leave__waiting_p, ne_WorkQueue__leave__working_p, ne_WorkQueue__leave__ticks_p, ne_WorkQueue__leave__failures_p, ne_WorkQueue__delay__most_p, ne_WorkQueue__delay__waiting_p, ne_WorkQueue__delay__working_p, ne_WorkQueue__delay__ticks_p, ne_WorkQueue__delay__failures_p, ne_WorkQueue_waiting__most_p, ne_WorkQueue_waiting__waiting_p, ne_WorkQueue_waiting__working_p, ne_WorkQueue_waiting__ticks_p, ne_WorkQueue_waiting__failures_p, ne_WorkQueue_in_work__most_p, ne_WorkQueue_in_work__waiting_p, ne_WorkQueue_in_work__working_p, ne_WorkQueue_in_work__ticks_p, ne_WorkQueue_in_work__failures_p, ne_WorkQueue_delayed__most_p, ne_WorkQueue_delayed__waiting_p, ne_WorkQueue_delayed__working_p, ne_WorkQueue_delayed__ticks_p, ne_WorkQueue_delayed__failures_p, ne_WorkQueue_failures__most_p, ne_WorkQueue_failures__waiting_p, ne_WorkQueue_failures__working_p, ne_WorkQueue_failures__ticks_p, ne_WorkQueue_failures__failures_p]
theorem pf_WorkQueue__most {v0 v1 v2 v3 v4 x : V} : putF ("_most" : Str) x (fl_WorkQueue v0 v1 v2 v3 v4) = fl_WorkQueue x v1 v2 v3 v4 := by unfold fl_WorkQueue; simp [putF, ne_WorkQueue__most__waiting, ne_WorkQueue__most__working, ne_WorkQueue__most__ticks, ne_WorkQueue__most__failures, ne_WorkQueue__waiting__most, ne_WorkQueue__waiting__working, ne_WorkQueue__waiting__ticks, ne_WorkQueue__waiting__failures, ne_WorkQueue__working__most, ne_WorkQueue__working__waiting, ne_WorkQueue__working__ticks, ne_WorkQueue__working__failures, ne_WorkQueue__ticks__most, ne_WorkQueue__ticks__waiting, ne_WorkQueue__ticks__working, ne_WorkQueue__ticks__failures, ne_WorkQueue__failures__most, ne_WorkQueue__failures__waiting, ne_WorkQueue__failures__working, ne_WorkQueue__failures__ticks, ne_WorkQueue_add__most, ne_WorkQueue_add__waiting, ne_WorkQueue_add__working, ne_WorkQueue_add__ticks, ne_WorkQueue_add__failures, ne_WorkQueue_add_later__most, ne_WorkQueue_add_later__waiting, ne_WorkQueue_add_later__working, ne_WorkQueue_add_later__ticks, ne_WorkQueue_add_later__failures, ne_WorkQueue_tick__most, ne_WorkQueue_tick__waiting, ne_WorkQueue_tick__working, ne_WorkQueue_tick__ticks, ne_WorkQueue_tick__failures, ne_WorkQueue_take__most, ne_WorkQueue_take__waiting, ne_WorkQueue_take__working, ne_WorkQueue_take__ticks, ne_WorkQueue_take__failures, ne_WorkQueue_finish__most, ne_WorkQueue_finish__waiting, ne_WorkQueue_finish__working, ne_WorkQueue_finish__ticks, ne_WorkQueue_finish__failures, ne_WorkQueue_fail__most, ne_WorkQueue_fail__waiting, ne_WorkQueue_fail__working, ne_WorkQueue_fail__ticks, ne_WorkQueue_fail__failures, ne_WorkQueue__leave__most, ne_WorkQueue__leave__waiting, ne_WorkQueue__leave__working, ne_WorkQueue__leave__ticks, ne_WorkQueue__leave__failures, ne_WorkQueue__delay__most, ne_WorkQueue__delay__waiting, ne_WorkQueue__delay__working, ne_WorkQueue__delay__ticks, ne_WorkQueue__delay__failures, ne_WorkQueue_waiting__most, ne_WorkQueue_waiting__waiting, ne_WorkQueue_waiting__working, ne_WorkQueue_waiting__ticks, ne_WorkQueue_waiting__failures, ne_WorkQueue_in_work__most, ne_WorkQueue_in_work__waiting, ne_WorkQueue_in_work__working, ne_WorkQueue_in_work__ticks, ne_WorkQueue_in_work__failures, ne_WorkQueue_delayed__most, ne_WorkQueue_delayed__waiting, ne_WorkQueue_delayed__working, ne_WorkQueue_delayed__ticks, ne_WorkQueue_delayed__failures, ne_WorkQueue_failures__most, ne_WorkQueue_failures__waiting, ne_WorkQueue_failures__working, ne_WorkQueue_failures__ticks, ne_WorkQueue_failures__failures, ne_WorkQueue__most__waiting_p, ne_WorkQueue__most__working_p, ne_WorkQueue__most__ticks_p, ne_WorkQueue__most__failures_p, ne_WorkQueue__waiting__most_p, ne_WorkQueue__waiting__working_p, ne_WorkQueue__waiting__ticks_p, ne_WorkQueue__waiting__failures_p, ne_WorkQueue__working__most_p, ne_WorkQueue__working__waiting_p, ne_WorkQueue__working__ticks_p, ne_WorkQueue__working__failures_p, ne_WorkQueue__ticks__most_p, ne_WorkQueue__ticks__waiting_p, ne_WorkQueue__ticks__working_p, ne_WorkQueue__ticks__failures_p, ne_WorkQueue__failures__most_p, ne_WorkQueue__failures__waiting_p, ne_WorkQueue__failures__working_p, ne_WorkQueue__failures__ticks_p, ne_WorkQueue_add__most_p, ne_WorkQueue_add__waiting_p, ne_WorkQueue_add__working_p, ne_WorkQueue_add__ticks_p, ne_WorkQueue_add__failures_p, ne_WorkQueue_add_later__most_p, ne_WorkQueue_add_later__waiting_p, ne_WorkQueue_add_later__working_p, ne_WorkQueue_add_later__ticks_p, ne_WorkQueue_add_later__failures_p, ne_WorkQueue_tick__most_p, ne_WorkQueue_tick__waiting_p, ne_WorkQueue_tick__working_p, ne_WorkQueue_tick__ticks_p, ne_WorkQueue_tick__failures_p, ne_WorkQueue_take__most_p, ne_WorkQueue_take__waiting_p, ne_WorkQueue_take__working_p, ne_WorkQueue_take__ticks_p, ne_WorkQueue_take__failures_p, ne_WorkQueue_finish__most_p, ne_WorkQueue_finish__waiting_p, ne_WorkQueue_finish__working_p, ne_WorkQueue_finish__ticks_p, ne_WorkQueue_finish__failures_p, ne_WorkQueue_fail__most_p, ne_WorkQueue_fail__waiting_p, ne_WorkQueue_fail__working_p, ne_WorkQueue_fail__ticks_p, ne_WorkQueue_fail__failures_p, ne_WorkQueue__leave__most_p, ne_WorkQueue__leave__waiting_p, ne_WorkQueue__leave__working_p, ne_WorkQueue__leave__ticks_p, ne_WorkQueue__leave__failures_p, ne_WorkQueue__delay__most_p, ne_WorkQueue__delay__waiting_p, ne_WorkQueue__delay__working_p, ne_WorkQueue__delay__ticks_p, ne_WorkQueue__delay__failures_p, ne_WorkQueue_waiting__most_p, ne_WorkQueue_waiting__waiting_p, ne_WorkQueue_waiting__working_p, ne_WorkQueue_waiting__ticks_p, ne_WorkQueue_waiting__failures_p, ne_WorkQueue_in_work__most_p, ne_WorkQueue_in_work__waiting_p, ne_WorkQueue_in_work__working_p, ne_WorkQueue_in_work__ticks_p, ne_WorkQueue_in_work__failures_p, ne_WorkQueue_delayed__most_p, ne_WorkQueue_delayed__waiting_p, ne_WorkQueue_delayed__working_p, ne_WorkQueue_delayed__ticks_p, ne_WorkQueue_delayed__failures_p, ne_WorkQueue_failures__most_p, ne_WorkQueue_failures__waiting_p, ne_WorkQueue_failures__working_p, ne_WorkQueue_failures__ticks_p, ne_WorkQueue_failures__failures_p]
theorem fl_WorkQueue__waiting {v0 v1 v2 v3 v4 : V} : (fl_WorkQueue v0 v1 v2 v3 v4).lookup ("_waiting" : Str) = some v1 := by unfold fl_WorkQueue; simp [List.lookup, ne_WorkQueue__most__waiting, ne_WorkQueue__most__working, ne_WorkQueue__most__ticks, ne_WorkQueue__most__failures, ne_WorkQueue__waiting__most, ne_WorkQueue__waiting__working, ne_WorkQueue__waiting__ticks, ne_WorkQueue__waiting__failures, ne_WorkQueue__working__most, ne_WorkQueue__working__waiting, ne_WorkQueue__working__ticks, ne_WorkQueue__working__failures, ne_WorkQueue__ticks__most, ne_WorkQueue__ticks__waiting, ne_WorkQueue__ticks__working, ne_WorkQueue__ticks__failures, ne_WorkQueue__failures__most, ne_WorkQueue__failures__waiting, ne_WorkQueue__failures__working, ne_WorkQueue__failures__ticks, ne_WorkQueue_add__most, ne_WorkQueue_add__waiting, ne_WorkQueue_add__working, ne_WorkQueue_add__ticks, ne_WorkQueue_add__failures, ne_WorkQueue_add_later__most, ne_WorkQueue_add_later__waiting, ne_WorkQueue_add_later__working, ne_WorkQueue_add_later__ticks, ne_WorkQueue_add_later__failures, ne_WorkQueue_tick__most, ne_WorkQueue_tick__waiting, ne_WorkQueue_tick__working, ne_WorkQueue_tick__ticks, ne_WorkQueue_tick__failures, ne_WorkQueue_take__most, ne_WorkQueue_take__waiting, ne_WorkQueue_take__working, ne_WorkQueue_take__ticks, ne_WorkQueue_take__failures, ne_WorkQueue_finish__most, ne_WorkQueue_finish__waiting, ne_WorkQueue_finish__working, ne_WorkQueue_finish__ticks, ne_WorkQueue_finish__failures, ne_WorkQueue_fail__most, ne_WorkQueue_fail__waiting, ne_WorkQueue_fail__working, ne_WorkQueue_fail__ticks, ne_WorkQueue_fail__failures, ne_WorkQueue__leave__most, ne_WorkQueue__leave__waiting, ne_WorkQueue__leave__working, ne_WorkQueue__leave__ticks, ne_WorkQueue__leave__failures, ne_WorkQueue__delay__most, ne_WorkQueue__delay__waiting, ne_WorkQueue__delay__working, ne_WorkQueue__delay__ticks, ne_WorkQueue__delay__failures, ne_WorkQueue_waiting__most, ne_WorkQueue_waiting__waiting, ne_WorkQueue_waiting__working, ne_WorkQueue_waiting__ticks, ne_WorkQueue_waiting__failures, ne_WorkQueue_in_work__most, ne_WorkQueue_in_work__waiting, ne_WorkQueue_in_work__working, ne_WorkQueue_in_work__ticks, ne_WorkQueue_in_work__failures, ne_WorkQueue_delayed__most, ne_WorkQueue_delayed__waiting, ne_WorkQueue_delayed__working, ne_WorkQueue_delayed__ticks, ne_WorkQueue_delayed__failures, ne_WorkQueue_failures__most, ne_WorkQueue_failures__waiting, ne_WorkQueue_failures__working, ne_WorkQueue_failures__ticks, ne_WorkQueue_failures__failures, ne_WorkQueue__most__waiting_p, ne_WorkQueue__most__working_p, ne_WorkQueue__most__ticks_p, ne_WorkQueue__most__failures_p, ne_WorkQueue__waiting__most_p, ne_WorkQueue__waiting__working_p, ne_WorkQueue__waiting__ticks_p, ne_WorkQueue__waiting__failures_p, ne_WorkQueue__working__most_p, ne_WorkQueue__working__waiting_p, ne_WorkQueue__working__ticks_p, ne_WorkQueue__working__failures_p, ne_WorkQueue__ticks__most_p, ne_WorkQueue__ticks__waiting_p, ne_WorkQueue__ticks__working_p, ne_WorkQueue__ticks__failures_p, ne_WorkQueue__failures__most_p, ne_WorkQueue__failures__waiting_p, ne_WorkQueue__failures__working_p, ne_WorkQueue__failures__ticks_p, ne_WorkQueue_add__most_p, ne_WorkQueue_add__waiting_p, ne_WorkQueue_add__working_p, ne_WorkQueue_add__ticks_p, ne_WorkQueue_add__failures_p, ne_WorkQueue_add_later__most_p, ne_WorkQueue_add_later__waiting_p, ne_WorkQueue_add_later__working_p, ne_WorkQueue_add_later__ticks_p, ne_WorkQueue_add_later__failures_p, ne_WorkQueue_tick__most_p, ne_WorkQueue_tick__waiting_p, ne_WorkQueue_tick__working_p, ne_WorkQueue_tick__ticks_p, ne_WorkQueue_tick__failures_p, ne_WorkQueue_take__most_p, ne_WorkQueue_take__waiting_p, ne_WorkQueue_take__working_p, ne_WorkQueue_take__ticks_p, ne_WorkQueue_take__failures_p, ne_WorkQueue_finish__most_p, ne_WorkQueue_finish__waiting_p, ne_WorkQueue_finish__working_p, ne_WorkQueue_finish__ticks_p, ne_WorkQueue_finish__failures_p, ne_WorkQueue_fail__most_p, ne_WorkQueue_fail__waiting_p, ne_WorkQueue_fail__working_p, ne_WorkQueue_fail__ticks_p, ne_WorkQueue_fail__failures_p, ne_WorkQueue__leave__most_p, ne_WorkQueue__leave__waiting_p, ne_WorkQueue__leave__working_p, ne_WorkQueue__leave__ticks_p, ne_WorkQueue__leave__failures_p, ne_WorkQueue__delay__most_p, ne_WorkQueue__delay__waiting_p, ne_WorkQueue__delay__working_p, ne_WorkQueue__delay__ticks_p, ne_WorkQueue__delay__failures_p, ne_WorkQueue_waiting__most_p, ne_WorkQueue_waiting__waiting_p, ne_WorkQueue_waiting__working_p, ne_WorkQueue_waiting__ticks_p, ne_WorkQueue_waiting__failures_p, ne_WorkQueue_in_work__most_p, ne_WorkQueue_in_work__waiting_p, ne_WorkQueue_in_work__working_p, ne_WorkQueue_in_work__ticks_p, ne_WorkQueue_in_work__failures_p, ne_WorkQueue_delayed__most_p, ne_WorkQueue_delayed__waiting_p, ne_WorkQueue_delayed__working_p, ne_WorkQueue_delayed__ticks_p, ne_WorkQueue_delayed__failures_p, ne_WorkQueue_failures__most_p, ne_WorkQueue_failures__waiting_p, ne_WorkQueue_failures__working_p, ne_WorkQueue_failures__ticks_p, ne_WorkQueue_failures__failures_p]
theorem pf_WorkQueue__waiting {v0 v1 v2 v3 v4 x : V} : putF ("_waiting" : Str) x (fl_WorkQueue v0 v1 v2 v3 v4) = fl_WorkQueue v0 x v2 v3 v4 := by unfold fl_WorkQueue; simp [putF, ne_WorkQueue__most__waiting, ne_WorkQueue__most__working, ne_WorkQueue__most__ticks, ne_WorkQueue__most__failures, ne_WorkQueue__waiting__most, ne_WorkQueue__waiting__working, ne_WorkQueue__waiting__ticks, ne_WorkQueue__waiting__failures, ne_WorkQueue__working__most, ne_WorkQueue__working__waiting, ne_WorkQueue__working__ticks, ne_WorkQueue__working__failures, ne_WorkQueue__ticks__most, ne_WorkQueue__ticks__waiting, ne_WorkQueue__ticks__working, ne_WorkQueue__ticks__failures, ne_WorkQueue__failures__most, ne_WorkQueue__failures__waiting, ne_WorkQueue__failures__working, ne_WorkQueue__failures__ticks, ne_WorkQueue_add__most, ne_WorkQueue_add__waiting, ne_WorkQueue_add__working, ne_WorkQueue_add__ticks, ne_WorkQueue_add__failures, ne_WorkQueue_add_later__most, ne_WorkQueue_add_later__waiting, ne_WorkQueue_add_later__working, ne_WorkQueue_add_later__ticks, ne_WorkQueue_add_later__failures, ne_WorkQueue_tick__most, ne_WorkQueue_tick__waiting, ne_WorkQueue_tick__working, ne_WorkQueue_tick__ticks, ne_WorkQueue_tick__failures, ne_WorkQueue_take__most, ne_WorkQueue_take__waiting, ne_WorkQueue_take__working, ne_WorkQueue_take__ticks, ne_WorkQueue_take__failures, ne_WorkQueue_finish__most, ne_WorkQueue_finish__waiting, ne_WorkQueue_finish__working, ne_WorkQueue_finish__ticks, ne_WorkQueue_finish__failures, ne_WorkQueue_fail__most, ne_WorkQueue_fail__waiting, ne_WorkQueue_fail__working, ne_WorkQueue_fail__ticks, ne_WorkQueue_fail__failures, ne_WorkQueue__leave__most, ne_WorkQueue__leave__waiting, ne_WorkQueue__leave__working, ne_WorkQueue__leave__ticks, ne_WorkQueue__leave__failures, ne_WorkQueue__delay__most, ne_WorkQueue__delay__waiting, ne_WorkQueue__delay__working, ne_WorkQueue__delay__ticks, ne_WorkQueue__delay__failures, ne_WorkQueue_waiting__most, ne_WorkQueue_waiting__waiting, ne_WorkQueue_waiting__working, ne_WorkQueue_waiting__ticks, ne_WorkQueue_waiting__failures, ne_WorkQueue_in_work__most, ne_WorkQueue_in_work__waiting, ne_WorkQueue_in_work__working, ne_WorkQueue_in_work__ticks, ne_WorkQueue_in_work__failures, ne_WorkQueue_delayed__most, ne_WorkQueue_delayed__waiting, ne_WorkQueue_delayed__working, ne_WorkQueue_delayed__ticks, ne_WorkQueue_delayed__failures, ne_WorkQueue_failures__most, ne_WorkQueue_failures__waiting, ne_WorkQueue_failures__working, ne_WorkQueue_failures__ticks, ne_WorkQueue_failures__failures, ne_WorkQueue__most__waiting_p, ne_WorkQueue__most__working_p, ne_WorkQueue__most__ticks_p, ne_WorkQueue__most__failures_p, ne_WorkQueue__waiting__most_p, ne_WorkQueue__waiting__working_p, ne_WorkQueue__waiting__ticks_p, ne_WorkQueue__waiting__failures_p, ne_WorkQueue__working__most_p, ne_WorkQueue__working__waiting_p, ne_WorkQueue__working__ticks_p, ne_WorkQueue__working__failures_p, ne_WorkQueue__ticks__most_p, ne_WorkQueue__ticks__waiting_p, ne_WorkQueue__ticks__working_p, ne_WorkQueue__ticks__failures_p, ne_WorkQueue__failures__most_p, ne_WorkQueue__failures__waiting_p, ne_WorkQueue__failures__working_p, ne_WorkQueue__failures__ticks_p, ne_WorkQueue_add__most_p, ne_WorkQueue_add__waiting_p, ne_WorkQueue_add__working_p, ne_WorkQueue_add__ticks_p, ne_WorkQueue_add__failures_p, ne_WorkQueue_add_later__most_p, ne_WorkQueue_add_later__waiting_p, ne_WorkQueue_add_later__working_p, ne_WorkQueue_add_later__ticks_p, ne_WorkQueue_add_later__failures_p, ne_WorkQueue_tick__most_p, ne_WorkQueue_tick__waiting_p, ne_WorkQueue_tick__working_p, ne_WorkQueue_tick__ticks_p, ne_WorkQueue_tick__failures_p, ne_WorkQueue_take__most_p, ne_WorkQueue_take__waiting_p, ne_WorkQueue_take__working_p, ne_WorkQueue_take__ticks_p, ne_WorkQueue_take__failures_p, ne_WorkQueue_finish__most_p, ne_WorkQueue_finish__waiting_p, ne_WorkQueue_finish__working_p, ne_WorkQueue_finish__ticks_p, ne_WorkQueue_finish__failures_p, ne_WorkQueue_fail__most_p, ne_WorkQueue_fail__waiting_p, ne_WorkQueue_fail__working_p, ne_WorkQueue_fail__ticks_p, ne_WorkQueue_fail__failures_p, ne_WorkQueue__leave__most_p, ne_WorkQueue__leave__waiting_p, ne_WorkQueue__leave__working_p, ne_WorkQueue__leave__ticks_p, ne_WorkQueue__leave__failures_p, ne_WorkQueue__delay__most_p, ne_WorkQueue__delay__waiting_p, ne_WorkQueue__delay__working_p, ne_WorkQueue__delay__ticks_p, ne_WorkQueue__delay__failures_p, ne_WorkQueue_waiting__most_p, ne_WorkQueue_waiting__waiting_p, ne_WorkQueue_waiting__working_p, ne_WorkQueue_waiting__ticks_p, ne_WorkQueue_waiting__failures_p, ne_WorkQueue_in_work__most_p, ne_WorkQueue_in_work__waiting_p, ne_WorkQueue_in_work__working_p, ne_WorkQueue_in_work__ticks_p, ne_WorkQueue_in_work__failures_p, ne_WorkQueue_delayed__most_p, ne_WorkQueue_delayed__waiting_p, ne_WorkQueue_delayed__working_p, ne_WorkQueue_delayed__ticks_p, ne_WorkQueue_delayed__failures_p, ne_WorkQueue_failures__most_p, ne_WorkQueue_failures__waiting_p, ne_WorkQueue_failures__working_p, ne_WorkQueue_failures__ticks_p, ne_WorkQueue_failures__failures_p]
theorem fl_WorkQueue__working {v0 v1 v2 v3 v4 : V} : (fl_WorkQueue v0 v1 v2 v3 v4).lookup ("_working" : Str) = some v2 := by unfold fl_WorkQueue; simp [List.lookup, ne_WorkQueue__most__waiting, ne_WorkQueue__most__working, ne_WorkQueue__most__ticks, ne_WorkQueue__most__failures, ne_WorkQueue__waiting__most, ne_WorkQueue__waiting__working, ne_WorkQueue__waiting__ticks, ne_WorkQueue__waiting__failures, ne_WorkQueue__working__most, ne_WorkQueue__working__waiting, ne_WorkQueue__working__ticks, ne_WorkQueue__working__failures, ne_WorkQueue__ticks__most, ne_WorkQueue__ticks__waiting, ne_WorkQueue__ticks__working, ne_WorkQueue__ticks__failures, ne_WorkQueue__failures__most, ne_WorkQueue__failures__waiting, ne_WorkQueue__failures__working, ne_WorkQueue__failures__ticks, ne_WorkQueue_add__most, ne_WorkQueue_add__waiting, ne_WorkQueue_add__working, ne_WorkQueue_add__ticks, ne_WorkQueue_add__failures, ne_WorkQueue_add_later__most, ne_WorkQueue_add_later__waiting, ne_WorkQueue_add_later__working, ne_WorkQueue_add_later__ticks, ne_WorkQueue_add_later__failures, ne_WorkQueue_tick__most, ne_WorkQueue_tick__waiting, ne_WorkQueue_tick__working, ne_WorkQueue_tick__ticks, ne_WorkQueue_tick__failures, ne_WorkQueue_take__most, ne_WorkQueue_take__waiting, ne_WorkQueue_take__working, ne_WorkQueue_take__ticks, ne_WorkQueue_take__failures, ne_WorkQueue_finish__most, ne_WorkQueue_finish__waiting, ne_WorkQueue_finish__working, ne_WorkQueue_finish__ticks, ne_WorkQueue_finish__failures, ne_WorkQueue_fail__most, ne_WorkQueue_fail__waiting, ne_WorkQueue_fail__working, ne_WorkQueue_fail__ticks, ne_WorkQueue_fail__failures, ne_WorkQueue__leave__most, ne_WorkQueue__leave__waiting, ne_WorkQueue__leave__working, ne_WorkQueue__leave__ticks, ne_WorkQueue__leave__failures, ne_WorkQueue__delay__most, ne_WorkQueue__delay__waiting, ne_WorkQueue__delay__working, ne_WorkQueue__delay__ticks, ne_WorkQueue__delay__failures, ne_WorkQueue_waiting__most, ne_WorkQueue_waiting__waiting, ne_WorkQueue_waiting__working, ne_WorkQueue_waiting__ticks, ne_WorkQueue_waiting__failures, ne_WorkQueue_in_work__most, ne_WorkQueue_in_work__waiting, ne_WorkQueue_in_work__working, ne_WorkQueue_in_work__ticks, ne_WorkQueue_in_work__failures, ne_WorkQueue_delayed__most, ne_WorkQueue_delayed__waiting, ne_WorkQueue_delayed__working, ne_WorkQueue_delayed__ticks, ne_WorkQueue_delayed__failures, ne_WorkQueue_failures__most, ne_WorkQueue_failures__waiting, ne_WorkQueue_failures__working, ne_WorkQueue_failures__ticks, ne_WorkQueue_failures__failures, ne_WorkQueue__most__waiting_p, ne_WorkQueue__most__working_p, ne_WorkQueue__most__ticks_p, ne_WorkQueue__most__failures_p, ne_WorkQueue__waiting__most_p, ne_WorkQueue__waiting__working_p, ne_WorkQueue__waiting__ticks_p, ne_WorkQueue__waiting__failures_p, ne_WorkQueue__working__most_p, ne_WorkQueue__working__waiting_p, ne_WorkQueue__working__ticks_p, ne_WorkQueue__working__failures_p, ne_WorkQueue__ticks__most_p, ne_WorkQueue__ticks__waiting_p, ne_WorkQueue__ticks__working_p, ne_WorkQueue__ticks__failures_p, ne_WorkQueue__failures__most_p, ne_WorkQueue__failures__waiting_p, ne_WorkQueue__failures__working_p, ne_WorkQueue__failures__ticks_p, ne_WorkQueue_add__most_p, ne_WorkQueue_add__waiting_p, ne_WorkQueue_add__working_p, ne_WorkQueue_add__ticks_p, ne_WorkQueue_add__failures_p, ne_WorkQueue_add_later__most_p, ne_WorkQueue_add_later__waiting_p, ne_WorkQueue_add_later__working_p, ne_WorkQueue_add_later__ticks_p, ne_WorkQueue_add_later__failures_p, ne_WorkQueue_tick__most_p, ne_WorkQueue_tick__waiting_p, ne_WorkQueue_tick__working_p, ne_WorkQueue_tick__ticks_p, ne_WorkQueue_tick__failures_p, ne_WorkQueue_take__most_p, ne_WorkQueue_take__waiting_p, ne_WorkQueue_take__working_p, ne_WorkQueue_take__ticks_p, ne_WorkQueue_take__failures_p, ne_WorkQueue_finish__most_p, ne_WorkQueue_finish__waiting_p, ne_WorkQueue_finish__working_p, ne_WorkQueue_finish__ticks_p, ne_WorkQueue_finish__failures_p, ne_WorkQueue_fail__most_p, ne_WorkQueue_fail__waiting_p, ne_WorkQueue_fail__working_p, ne_WorkQueue_fail__ticks_p, ne_WorkQueue_fail__failures_p, ne_WorkQueue__leave__most_p, ne_WorkQueue__leave__waiting_p, ne_WorkQueue__leave__working_p, ne_WorkQueue__leave__ticks_p, ne_WorkQueue__leave__failures_p, ne_WorkQueue__delay__most_p, ne_WorkQueue__delay__waiting_p, ne_WorkQueue__delay__working_p, ne_WorkQueue__delay__ticks_p, ne_WorkQueue__delay__failures_p, ne_WorkQueue_waiting__most_p, ne_WorkQueue_waiting__waiting_p, ne_WorkQueue_waiting__working_p, ne_WorkQueue_waiting__ticks_p, ne_WorkQueue_waiting__failures_p, ne_WorkQueue_in_work__most_p, ne_WorkQueue_in_work__waiting_p, ne_WorkQueue_in_work__working_p, ne_WorkQueue_in_work__ticks_p, ne_WorkQueue_in_work__failures_p, ne_WorkQueue_delayed__most_p, ne_WorkQueue_delayed__waiting_p, ne_WorkQueue_delayed__working_p, ne_WorkQueue_delayed__ticks_p, ne_WorkQueue_delayed__failures_p, ne_WorkQueue_failures__most_p, ne_WorkQueue_failures__waiting_p, ne_WorkQueue_failures__working_p, ne_WorkQueue_failures__ticks_p, ne_WorkQueue_failures__failures_p]
theorem pf_WorkQueue__working {v0 v1 v2 v3 v4 x : V} : putF ("_working" : Str) x (fl_WorkQueue v0 v1 v2 v3 v4) = fl_WorkQueue v0 v1 x v3 v4 := by unfold fl_WorkQueue; simp [putF, ne_WorkQueue__most__waiting, ne_WorkQueue__most__working, ne_WorkQueue__most__ticks, ne_WorkQueue__most__failures, ne_WorkQueue__waiting__most, ne_WorkQueue__waiting__working, ne_WorkQueue__waiting__ticks, ne_WorkQueue__waiting__failures, ne_WorkQueue__working__most, ne_WorkQueue__working__waiting, ne_WorkQueue__working__ticks, ne_WorkQueue__working__failures, ne_WorkQueue__ticks__most, ne_WorkQueue__ticks__waiting, ne_WorkQueue__ticks__working, ne_WorkQueue__ticks__failures, ne_WorkQueue__failures__most, ne_WorkQueue__failures__waiting, ne_WorkQueue__failures__working, ne_WorkQueue__failures__ticks, ne_WorkQueue_add__most, ne_WorkQueue_add__waiting, ne_WorkQueue_add__working, ne_WorkQueue_add__ticks, ne_WorkQueue_add__failures, ne_WorkQueue_add_later__most, ne_WorkQueue_add_later__waiting, ne_WorkQueue_add_later__working, ne_WorkQueue_add_later__ticks, ne_WorkQueue_add_later__failures, ne_WorkQueue_tick__most, ne_WorkQueue_tick__waiting, ne_WorkQueue_tick__working, ne_WorkQueue_tick__ticks, ne_WorkQueue_tick__failures, ne_WorkQueue_take__most, ne_WorkQueue_take__waiting, ne_WorkQueue_take__working, ne_WorkQueue_take__ticks, ne_WorkQueue_take__failures, ne_WorkQueue_finish__most, ne_WorkQueue_finish__waiting, ne_WorkQueue_finish__working, ne_WorkQueue_finish__ticks, ne_WorkQueue_finish__failures, ne_WorkQueue_fail__most, ne_WorkQueue_fail__waiting, ne_WorkQueue_fail__working, ne_WorkQueue_fail__ticks, ne_WorkQueue_fail__failures, ne_WorkQueue__leave__most, ne_WorkQueue__leave__waiting, ne_WorkQueue__leave__working, ne_WorkQueue__leave__ticks, ne_WorkQueue__leave__failures, ne_WorkQueue__delay__most, ne_WorkQueue__delay__waiting, ne_WorkQueue__delay__working, ne_WorkQueue__delay__ticks, ne_WorkQueue__delay__failures, ne_WorkQueue_waiting__most, ne_WorkQueue_waiting__waiting, ne_WorkQueue_waiting__working, ne_WorkQueue_waiting__ticks, ne_WorkQueue_waiting__failures, ne_WorkQueue_in_work__most, ne_WorkQueue_in_work__waiting, ne_WorkQueue_in_work__working, ne_WorkQueue_in_work__ticks, ne_WorkQueue_in_work__failures, ne_WorkQueue_delayed__most, ne_WorkQueue_delayed__waiting, ne_WorkQueue_delayed__working, ne_WorkQueue_delayed__ticks, ne_WorkQueue_delayed__failures, ne_WorkQueue_failures__most, ne_WorkQueue_failures__waiting, ne_WorkQueue_failures__working, ne_WorkQueue_failures__ticks, ne_WorkQueue_failures__failures, ne_WorkQueue__most__waiting_p, ne_WorkQueue__most__working_p, ne_WorkQueue__most__ticks_p, ne_WorkQueue__most__failures_p, ne_WorkQueue__waiting__most_p, ne_WorkQueue__waiting__working_p, ne_WorkQueue__waiting__ticks_p, ne_WorkQueue__waiting__failures_p, ne_WorkQueue__working__most_p, ne_WorkQueue__working__waiting_p, ne_WorkQueue__working__ticks_p, ne_WorkQueue__working__failures_p, ne_WorkQueue__ticks__most_p, ne_WorkQueue__ticks__waiting_p, ne_WorkQueue__ticks__working_p, ne_WorkQueue__ticks__failures_p, ne_WorkQueue__failures__most_p, ne_WorkQueue__failures__waiting_p, ne_WorkQueue__failures__working_p, ne_WorkQueue__failures__ticks_p, ne_WorkQueue_add__most_p, ne_WorkQueue_add__waiting_p, ne_WorkQueue_add__working_p, ne_WorkQueue_add__ticks_p, ne_WorkQueue_add__failures_p, ne_WorkQueue_add_later__most_p, ne_WorkQueue_add_later__waiting_p, ne_WorkQueue_add_later__working_p, ne_WorkQueue_add_later__ticks_p, ne_WorkQueue_add_later__failures_p, ne_WorkQueue_tick__most_p, ne_WorkQueue_tick__waiting_p, ne_WorkQueue_tick__working_p, ne_WorkQueue_tick__ticks_p, ne_WorkQueue_tick__failures_p, ne_WorkQueue_take__most_p, ne_WorkQueue_take__waiting_p, ne_WorkQueue_take__working_p, ne_WorkQueue_take__ticks_p, ne_WorkQueue_take__failures_p, ne_WorkQueue_finish__most_p, ne_WorkQueue_finish__waiting_p, ne_WorkQueue_finish__working_p, ne_WorkQueue_finish__ticks_p, ne_WorkQueue_finish__failures_p, ne_WorkQueue_fail__most_p, ne_WorkQueue_fail__waiting_p, ne_WorkQueue_fail__working_p, ne_WorkQueue_fail__ticks_p, ne_WorkQueue_fail__failures_p, ne_WorkQueue__leave__most_p, ne_WorkQueue__leave__waiting_p, ne_WorkQueue__leave__working_p, ne_WorkQueue__leave__ticks_p, ne_WorkQueue__leave__failures_p, ne_WorkQueue__delay__most_p, ne_WorkQueue__delay__waiting_p, ne_WorkQueue__delay__working_p, ne_WorkQueue__delay__ticks_p, ne_WorkQueue__delay__failures_p, ne_WorkQueue_waiting__most_p, ne_WorkQueue_waiting__waiting_p, ne_WorkQueue_waiting__working_p, ne_WorkQueue_waiting__ticks_p, ne_WorkQueue_waiting__failures_p, ne_WorkQueue_in_work__most_p, ne_WorkQueue_in_work__waiting_p, ne_WorkQueue_in_work__working_p, ne_WorkQueue_in_work__ticks_p, ne_WorkQueue_in_work__failures_p, ne_WorkQueue_delayed__most_p, ne_WorkQueue_delayed__waiting_p, ne_WorkQueue_delayed__working_p, ne_WorkQueue_delayed__ticks_p, ne_WorkQueue_delayed__failures_p, ne_WorkQueue_failures__most_p, ne_WorkQueue_failures__waiting_p, ne_WorkQueue_failures__working_p, ne_WorkQueue_failures__ticks_p, ne_WorkQueue_failures__failures_p]
theorem fl_WorkQueue__ticks {v0 v1 v2 v3 v4 : V} : (fl_WorkQueue v0 v1 v2 v3 v4).lookup ("_ticks" : Str) = some v3 := by unfold fl_WorkQueue; simp [List.lookup, ne_WorkQueue__most__waiting, ne_WorkQueue__most__working, ne_WorkQueue__most__ticks, ne_WorkQueue__most__failures, ne_WorkQueue__waiting__most, ne_WorkQueue__waiting__working, ne_WorkQueue__waiting__ticks, ne_WorkQueue__waiting__failures, ne_WorkQueue__working__most, ne_WorkQueue__working__waiting, ne_WorkQueue__working__ticks, ne_WorkQueue__working__failures, ne_WorkQueue__ticks__most, ne_WorkQueue__ticks__waiting, ne_WorkQueue__ticks__working, ne_WorkQueue__ticks__failures, ne_WorkQueue__failures__most, ne_WorkQueue__failures__waiting, ne_WorkQueue__failures__working, ne_WorkQueue__failures__ticks, ne_WorkQueue_add__most, ne_WorkQueue_add__waiting, ne_WorkQueue_add__working, ne_WorkQueue_add__ticks, ne_WorkQueue_add__failures, ne_WorkQueue_add_later__most, ne_WorkQueue_add_later__waiting, ne_WorkQueue_add_later__working, ne_WorkQueue_add_later__ticks, ne_WorkQueue_add_later__failures, ne_WorkQueue_tick__most, ne_WorkQueue_tick__waiting, ne_WorkQueue_tick__working, ne_WorkQueue_tick__ticks, ne_WorkQueue_tick__failures, ne_WorkQueue_take__most, ne_WorkQueue_take__waiting, ne_WorkQueue_take__working, ne_WorkQueue_take__ticks, ne_WorkQueue_take__failures, ne_WorkQueue_finish__most, ne_WorkQueue_finish__waiting, ne_WorkQueue_finish__working, ne_WorkQueue_finish__ticks, ne_WorkQueue_finish__failures, ne_WorkQueue_fail__most, ne_WorkQueue_fail__waiting, ne_WorkQueue_fail__working, ne_WorkQueue_fail__ticks, ne_WorkQueue_fail__failures, ne_WorkQueue__leave__most, ne_WorkQueue__leave__waiting, ne_WorkQueue__leave__working, ne_WorkQueue__leave__ticks, ne_WorkQueue__leave__failures, ne_WorkQueue__delay__most, ne_WorkQueue__delay__waiting, ne_WorkQueue__delay__working, ne_WorkQueue__delay__ticks, ne_WorkQueue__delay__failures, ne_WorkQueue_waiting__most, ne_WorkQueue_waiting__waiting, ne_WorkQueue_waiting__working, ne_WorkQueue_waiting__ticks, ne_WorkQueue_waiting__failures, ne_WorkQueue_in_work__most, ne_WorkQueue_in_work__waiting, ne_WorkQueue_in_work__working, ne_WorkQueue_in_work__ticks, ne_WorkQueue_in_work__failures, ne_WorkQueue_delayed__most, ne_WorkQueue_delayed__waiting, ne_WorkQueue_delayed__working, ne_WorkQueue_delayed__ticks, ne_WorkQueue_delayed__failures, ne_WorkQueue_failures__most, ne_WorkQueue_failures__waiting, ne_WorkQueue_failures__working, ne_WorkQueue_failures__ticks, ne_WorkQueue_failures__failures, ne_WorkQueue__most__waiting_p, ne_WorkQueue__most__working_p, ne_WorkQueue__most__ticks_p, ne_WorkQueue__most__failures_p, ne_WorkQueue__waiting__most_p, ne_WorkQueue__waiting__working_p, ne_WorkQueue__waiting__ticks_p, ne_WorkQueue__waiting__failures_p, ne_WorkQueue__working__most_p, ne_WorkQueue__working__waiting_p, ne_WorkQueue__working__ticks_p, ne_WorkQueue__working__failures_p, ne_WorkQueue__ticks__most_p, ne_WorkQueue__ticks__waiting_p, ne_WorkQueue__ticks__working_p, ne_WorkQueue__ticks__failures_p, ne_WorkQueue__failures__most_p, ne_WorkQueue__failures__waiting_p, ne_WorkQueue__failures__working_p, ne_WorkQueue__failures__ticks_p, ne_WorkQueue_add__most_p, ne_WorkQueue_add__waiting_p, ne_WorkQueue_add__working_p, ne_WorkQueue_add__ticks_p, ne_WorkQueue_add__failures_p, ne_WorkQueue_add_later__most_p, ne_WorkQueue_add_later__waiting_p, ne_WorkQueue_add_later__working_p, ne_WorkQueue_add_later__ticks_p, ne_WorkQueue_add_later__failures_p, ne_WorkQueue_tick__most_p, ne_WorkQueue_tick__waiting_p, ne_WorkQueue_tick__working_p, ne_WorkQueue_tick__ticks_p, ne_WorkQueue_tick__failures_p, ne_WorkQueue_take__most_p, ne_WorkQueue_take__waiting_p, ne_WorkQueue_take__working_p, ne_WorkQueue_take__ticks_p, ne_WorkQueue_take__failures_p, ne_WorkQueue_finish__most_p, ne_WorkQueue_finish__waiting_p, ne_WorkQueue_finish__working_p, ne_WorkQueue_finish__ticks_p, ne_WorkQueue_finish__failures_p, ne_WorkQueue_fail__most_p, ne_WorkQueue_fail__waiting_p, ne_WorkQueue_fail__working_p, ne_WorkQueue_fail__ticks_p, ne_WorkQueue_fail__failures_p, ne_WorkQueue__leave__most_p, ne_WorkQueue__leave__waiting_p, ne_WorkQueue__leave__working_p, ne_WorkQueue__leave__ticks_p, ne_WorkQueue__leave__failures_p, ne_WorkQueue__delay__most_p, ne_WorkQueue__delay__waiting_p, ne_WorkQueue__delay__working_p, ne_WorkQueue__delay__ticks_p, ne_WorkQueue__delay__failures_p, ne_WorkQueue_waiting__most_p, ne_WorkQueue_waiting__waiting_p, ne_WorkQueue_waiting__working_p, ne_WorkQueue_waiting__ticks_p, ne_WorkQueue_waiting__failures_p, ne_WorkQueue_in_work__most_p, ne_WorkQueue_in_work__waiting_p, ne_WorkQueue_in_work__working_p, ne_WorkQueue_in_work__ticks_p, ne_WorkQueue_in_work__failures_p, ne_WorkQueue_delayed__most_p, ne_WorkQueue_delayed__waiting_p, ne_WorkQueue_delayed__working_p, ne_WorkQueue_delayed__ticks_p, ne_WorkQueue_delayed__failures_p, ne_WorkQueue_failures__most_p, ne_WorkQueue_failures__waiting_p, ne_WorkQueue_failures__working_p, ne_WorkQueue_failures__ticks_p, ne_WorkQueue_failures__failures_p]
theorem pf_WorkQueue__ticks {v0 v1 v2 v3 v4 x : V} : putF ("_ticks" : Str) x (fl_WorkQueue v0 v1 v2 v3 v4) = fl_WorkQueue v0 v1 v2 x v4 := by unfold fl_WorkQueue; simp [putF, ne_WorkQueue__most__waiting, ne_WorkQueue__most__working, ne_WorkQueue__most__ticks, ne_WorkQueue__most__failures, ne_WorkQueue__waiting__most, ne_WorkQueue__waiting__working, ne_WorkQueue__waiting__ticks, ne_WorkQueue__waiting__failures, ne_WorkQueue__working__most, ne_WorkQueue__working__waiting, ne_WorkQueue__working__ticks, ne_WorkQueue__working__failures, ne_WorkQueue__ticks__most, ne_WorkQueue__ticks__waiting, ne_WorkQueue__ticks__working, ne_WorkQueue__ticks__failures, ne_WorkQueue__failures__most, ne_WorkQueue__failures__waiting, ne_WorkQueue__failures__working, ne_WorkQueue__failures__ticks, ne_WorkQueue_add__most, ne_WorkQueue_add__waiting, ne_WorkQueue_add__working, ne_WorkQueue_add__ticks, ne_WorkQueue_add__failures, ne_WorkQueue_add_later__most, ne_WorkQueue_add_later__waiting, ne_WorkQueue_add_later__working, ne_WorkQueue_add_later__ticks, ne_WorkQueue_add_later__failures, ne_WorkQueue_tick__most, ne_WorkQueue_tick__waiting, ne_WorkQueue_tick__working, ne_WorkQueue_tick__ticks, ne_WorkQueue_tick__failures, ne_WorkQueue_take__most, ne_WorkQueue_take__waiting, ne_WorkQueue_take__working, ne_WorkQueue_take__ticks, ne_WorkQueue_take__failures, ne_WorkQueue_finish__most, ne_WorkQueue_finish__waiting, ne_WorkQueue_finish__working, ne_WorkQueue_finish__ticks, ne_WorkQueue_finish__failures, ne_WorkQueue_fail__most, ne_WorkQueue_fail__waiting, ne_WorkQueue_fail__working, ne_WorkQueue_fail__ticks, ne_WorkQueue_fail__failures, ne_WorkQueue__leave__most, ne_WorkQueue__leave__waiting, ne_WorkQueue__leave__working, ne_WorkQueue__leave__ticks, ne_WorkQueue__leave__failures, ne_WorkQueue__delay__most, ne_WorkQueue__delay__waiting, ne_WorkQueue__delay__working, ne_WorkQueue__delay__ticks, ne_WorkQueue__delay__failures, ne_WorkQueue_waiting__most, ne_WorkQueue_waiting__waiting, ne_WorkQueue_waiting__working, ne_WorkQueue_waiting__ticks, ne_WorkQueue_waiting__failures, ne_WorkQueue_in_work__most, ne_WorkQueue_in_work__waiting, ne_WorkQueue_in_work__working, ne_WorkQueue_in_work__ticks, ne_WorkQueue_in_work__failures, ne_WorkQueue_delayed__most, ne_WorkQueue_delayed__waiting, ne_WorkQueue_delayed__working, ne_WorkQueue_delayed__ticks, ne_WorkQueue_delayed__failures, ne_WorkQueue_failures__most, ne_WorkQueue_failures__waiting, ne_WorkQueue_failures__working, ne_WorkQueue_failures__ticks, ne_WorkQueue_failures__failures, ne_WorkQueue__most__waiting_p, ne_WorkQueue__most__working_p, ne_WorkQueue__most__ticks_p, ne_WorkQueue__most__failures_p, ne_WorkQueue__waiting__most_p, ne_WorkQueue__waiting__working_p, ne_WorkQueue__waiting__ticks_p, ne_WorkQueue__waiting__failures_p, ne_WorkQueue__working__most_p, ne_WorkQueue__working__waiting_p, ne_WorkQueue__working__ticks_p, ne_WorkQueue__working__failures_p, ne_WorkQueue__ticks__most_p, ne_WorkQueue__ticks__waiting_p, ne_WorkQueue__ticks__working_p, ne_WorkQueue__ticks__failures_p, ne_WorkQueue__failures__most_p, ne_WorkQueue__failures__waiting_p, ne_WorkQueue__failures__working_p, ne_WorkQueue__failures__ticks_p, ne_WorkQueue_add__most_p, ne_WorkQueue_add__waiting_p, ne_WorkQueue_add__working_p, ne_WorkQueue_add__ticks_p, ne_WorkQueue_add__failures_p, ne_WorkQueue_add_later__most_p, ne_WorkQueue_add_later__waiting_p, ne_WorkQueue_add_later__working_p, ne_WorkQueue_add_later__ticks_p, ne_WorkQueue_add_later__failures_p, ne_WorkQueue_tick__most_p, ne_WorkQueue_tick__waiting_p, ne_WorkQueue_tick__working_p, ne_WorkQueue_tick__ticks_p, ne_WorkQueue_tick__failures_p, ne_WorkQueue_take__most_p, ne_WorkQueue_take__waiting_p, ne_WorkQueue_take__working_p, ne_WorkQueue_take__ticks_p, ne_WorkQueue_take__failures_p, ne_WorkQueue_finish__most_p, ne_WorkQueue_finish__waiting_p, ne_WorkQueue_finish__working_p, ne_WorkQueue_finish__ticks_p, ne_WorkQueue_finish__failures_p, ne_WorkQueue_fail__most_p, ne_WorkQueue_fail__waiting_p, ne_WorkQueue_fail__working_p, ne_WorkQueue_fail__ticks_p, ne_WorkQueue_fail__failures_p, ne_WorkQueue__leave__most_p, ne_WorkQueue__leave__waiting_p, ne_WorkQueue__leave__working_p, ne_WorkQueue__leave__ticks_p, ne_WorkQueue__leave__failures_p, ne_WorkQueue__delay__most_p, ne_WorkQueue__delay__waiting_p, ne_WorkQueue__delay__working_p, ne_WorkQueue__delay__ticks_p, ne_WorkQueue__delay__failures_p, ne_WorkQueue_waiting__most_p, ne_WorkQueue_waiting__waiting_p, ne_WorkQueue_waiting__working_p, ne_WorkQueue_waiting__ticks_p, ne_WorkQueue_waiting__failures_p, ne_WorkQueue_in_work__most_p, ne_WorkQueue_in_work__waiting_p, ne_WorkQueue_in_work__working_p, ne_WorkQueue_in_work__ticks_p, ne_WorkQueue_in_work__failures_p, ne_WorkQueue_delayed__most_p, ne_WorkQueue_delayed__waiting_p, ne_WorkQueue_delayed__working_p, ne_WorkQueue_delayed__ticks_p, ne_WorkQueue_delayed__failures_p, ne_WorkQueue_failures__most_p, ne_WorkQueue_failures__waiting_p, ne_WorkQueue_failures__working_p, ne_WorkQueue_failures__ticks_p, ne_WorkQueue_failures__failures_p]
theorem fl_WorkQueue__failures {v0 v1 v2 v3 v4 : V} : (fl_WorkQueue v0 v1 v2 v3 v4).lookup ("_failures" : Str) = some v4 := by unfold fl_WorkQueue; simp [List.lookup, ne_WorkQueue__most__waiting, ne_WorkQueue__most__working, ne_WorkQueue__most__ticks, ne_WorkQueue__most__failures, ne_WorkQueue__waiting__most, ne_WorkQueue__waiting__working, ne_WorkQueue__waiting__ticks, ne_WorkQueue__waiting__failures, ne_WorkQueue__working__most, ne_WorkQueue__working__waiting, ne_WorkQueue__working__ticks, ne_WorkQueue__working__failures, ne_WorkQueue__ticks__most, ne_WorkQueue__ticks__waiting, ne_WorkQueue__ticks__working, ne_WorkQueue__ticks__failures, ne_WorkQueue__failures__most, ne_WorkQueue__failures__waiting, ne_WorkQueue__failures__working, ne_WorkQueue__failures__ticks, ne_WorkQueue_add__most, ne_WorkQueue_add__waiting, ne_WorkQueue_add__working, ne_WorkQueue_add__ticks, ne_WorkQueue_add__failures, ne_WorkQueue_add_later__most, ne_WorkQueue_add_later__waiting, ne_WorkQueue_add_later__working, ne_WorkQueue_add_later__ticks, ne_WorkQueue_add_later__failures, ne_WorkQueue_tick__most, ne_WorkQueue_tick__waiting, ne_WorkQueue_tick__working, ne_WorkQueue_tick__ticks, ne_WorkQueue_tick__failures, ne_WorkQueue_take__most, ne_WorkQueue_take__waiting, ne_WorkQueue_take__working, ne_WorkQueue_take__ticks, ne_WorkQueue_take__failures, ne_WorkQueue_finish__most, ne_WorkQueue_finish__waiting, ne_WorkQueue_finish__working, ne_WorkQueue_finish__ticks, ne_WorkQueue_finish__failures, ne_WorkQueue_fail__most, ne_WorkQueue_fail__waiting, ne_WorkQueue_fail__working, ne_WorkQueue_fail__ticks, ne_WorkQueue_fail__failures, ne_WorkQueue__leave__most, ne_WorkQueue__leave__waiting, ne_WorkQueue__leave__working, ne_WorkQueue__leave__ticks, ne_WorkQueue__leave__failures, ne_WorkQueue__delay__most, ne_WorkQueue__delay__waiting, ne_WorkQueue__delay__working, ne_WorkQueue__delay__ticks, ne_WorkQueue__delay__failures, ne_WorkQueue_waiting__most, ne_WorkQueue_waiting__waiting, ne_WorkQueue_waiting__working, ne_WorkQueue_waiting__ticks, ne_WorkQueue_waiting__failures, ne_WorkQueue_in_work__most, ne_WorkQueue_in_work__waiting, ne_WorkQueue_in_work__working, ne_WorkQueue_in_work__ticks, ne_WorkQueue_in_work__failures, ne_WorkQueue_delayed__most, ne_WorkQueue_delayed__waiting, ne_WorkQueue_delayed__working, ne_WorkQueue_delayed__ticks, ne_WorkQueue_delayed__failures, ne_WorkQueue_failures__most, ne_WorkQueue_failures__waiting, ne_WorkQueue_failures__working, ne_WorkQueue_failures__ticks, ne_WorkQueue_failures__failures, ne_WorkQueue__most__waiting_p, ne_WorkQueue__most__working_p, ne_WorkQueue__most__ticks_p, ne_WorkQueue__most__failures_p, ne_WorkQueue__waiting__most_p, ne_WorkQueue__waiting__working_p, ne_WorkQueue__waiting__ticks_p, ne_WorkQueue__waiting__failures_p, ne_WorkQueue__working__most_p, ne_WorkQueue__working__waiting_p, ne_WorkQueue__working__ticks_p, ne_WorkQueue__working__failures_p, ne_WorkQueue__ticks__most_p, ne_WorkQueue__ticks__waiting_p, ne_WorkQueue__ticks__working_p, ne_WorkQueue__ticks__failures_p, ne_WorkQueue__failures__most_p, ne_WorkQueue__failures__waiting_p, ne_WorkQueue__failures__working_p, ne_WorkQueue__failures__ticks_p, ne_WorkQueue_add__most_p, ne_WorkQueue_add__waiting_p, ne_WorkQueue_add__working_p, ne_WorkQueue_add__ticks_p, ne_WorkQueue_add__failures_p, ne_WorkQueue_add_later__most_p, ne_WorkQueue_add_later__waiting_p, ne_WorkQueue_add_later__working_p, ne_WorkQueue_add_later__ticks_p, ne_WorkQueue_add_later__failures_p, ne_WorkQueue_tick__most_p, ne_WorkQueue_tick__waiting_p, ne_WorkQueue_tick__working_p, ne_WorkQueue_tick__ticks_p, ne_WorkQueue_tick__failures_p, ne_WorkQueue_take__most_p, ne_WorkQueue_take__waiting_p, ne_WorkQueue_take__working_p, ne_WorkQueue_take__ticks_p, ne_WorkQueue_take__failures_p, ne_WorkQueue_finish__most_p, ne_WorkQueue_finish__waiting_p, ne_WorkQueue_finish__working_p, ne_WorkQueue_finish__ticks_p, ne_WorkQueue_finish__failures_p, ne_WorkQueue_fail__most_p, ne_WorkQueue_fail__waiting_p, ne_WorkQueue_fail__working_p, ne_WorkQueue_fail__ticks_p, ne_WorkQueue_fail__failures_p, ne_WorkQueue__leave__most_p, ne_WorkQueue__leave__waiting_p, ne_WorkQueue__leave__working_p, ne_WorkQueue__leave__ticks_p, ne_WorkQueue__leave__failures_p, ne_WorkQueue__delay__most_p, ne_WorkQueue__delay__waiting_p, ne_WorkQueue__delay__working_p, ne_WorkQueue__delay__ticks_p, ne_WorkQueue__delay__failures_p, ne_WorkQueue_waiting__most_p, ne_WorkQueue_waiting__waiting_p, ne_WorkQueue_waiting__working_p, ne_WorkQueue_waiting__ticks_p, ne_WorkQueue_waiting__failures_p, ne_WorkQueue_in_work__most_p, ne_WorkQueue_in_work__waiting_p, ne_WorkQueue_in_work__working_p, ne_WorkQueue_in_work__ticks_p, ne_WorkQueue_in_work__failures_p, ne_WorkQueue_delayed__most_p, ne_WorkQueue_delayed__waiting_p, ne_WorkQueue_delayed__working_p, ne_WorkQueue_delayed__ticks_p, ne_WorkQueue_delayed__failures_p, ne_WorkQueue_failures__most_p, ne_WorkQueue_failures__waiting_p, ne_WorkQueue_failures__working_p, ne_WorkQueue_failures__ticks_p, ne_WorkQueue_failures__failures_p]
theorem pf_WorkQueue__failures {v0 v1 v2 v3 v4 x : V} : putF ("_failures" : Str) x (fl_WorkQueue v0 v1 v2 v3 v4) = fl_WorkQueue v0 v1 v2 v3 x := by unfold fl_WorkQueue; simp [putF, ne_WorkQueue__most__waiting, ne_WorkQueue__most__working, ne_WorkQueue__most__ticks, ne_WorkQueue__most__failures, ne_WorkQueue__waiting__most, ne_WorkQueue__waiting__working, ne_WorkQueue__waiting__ticks, ne_WorkQueue__waiting__failures, ne_WorkQueue__working__most, ne_WorkQueue__working__waiting, ne_WorkQueue__working__ticks, ne_WorkQueue__working__failures, ne_WorkQueue__ticks__most, ne_WorkQueue__ticks__waiting, ne_WorkQueue__ticks__working, ne_WorkQueue__ticks__failures, ne_WorkQueue__failures__most, ne_WorkQueue__failures__waiting, ne_WorkQueue__failures__working, ne_WorkQueue__failures__ticks, ne_WorkQueue_add__most, ne_WorkQueue_add__waiting, ne_WorkQueue_add__working, ne_WorkQueue_add__ticks, ne_WorkQueue_add__failures, ne_WorkQueue_add_later__most, ne_WorkQueue_add_later__waiting, ne_WorkQueue_add_later__working, ne_WorkQueue_add_later__ticks, ne_WorkQueue_add_later__failures, ne_WorkQueue_tick__most, ne_WorkQueue_tick__waiting, ne_WorkQueue_tick__working, ne_WorkQueue_tick__ticks, ne_WorkQueue_tick__failures, ne_WorkQueue_take__most, ne_WorkQueue_take__waiting, ne_WorkQueue_take__working, ne_WorkQueue_take__ticks, ne_WorkQueue_take__failures, ne_WorkQueue_finish__most, ne_WorkQueue_finish__waiting, ne_WorkQueue_finish__working, ne_WorkQueue_finish__ticks, ne_WorkQueue_finish__failures, ne_WorkQueue_fail__most, ne_WorkQueue_fail__waiting, ne_WorkQueue_fail__working, ne_WorkQueue_fail__ticks, ne_WorkQueue_fail__failures, ne_WorkQueue__leave__most, ne_WorkQueue__leave__waiting, ne_WorkQueue__leave__working, ne_WorkQueue__leave__ticks, ne_WorkQueue__leave__failures, ne_WorkQueue__delay__most, ne_WorkQueue__delay__waiting, ne_WorkQueue__delay__working, ne_WorkQueue__delay__ticks, ne_WorkQueue__delay__failures, ne_WorkQueue_waiting__most, ne_WorkQueue_waiting__waiting, ne_WorkQueue_waiting__working, ne_WorkQueue_waiting__ticks, ne_WorkQueue_waiting__failures, ne_WorkQueue_in_work__most, ne_WorkQueue_in_work__waiting, ne_WorkQueue_in_work__working, ne_WorkQueue_in_work__ticks, ne_WorkQueue_in_work__failures, ne_WorkQueue_delayed__most, ne_WorkQueue_delayed__waiting, ne_WorkQueue_delayed__working, ne_WorkQueue_delayed__ticks, ne_WorkQueue_delayed__failures, ne_WorkQueue_failures__most, ne_WorkQueue_failures__waiting, ne_WorkQueue_failures__working, ne_WorkQueue_failures__ticks, ne_WorkQueue_failures__failures, ne_WorkQueue__most__waiting_p, ne_WorkQueue__most__working_p, ne_WorkQueue__most__ticks_p, ne_WorkQueue__most__failures_p, ne_WorkQueue__waiting__most_p, ne_WorkQueue__waiting__working_p, ne_WorkQueue__waiting__ticks_p, ne_WorkQueue__waiting__failures_p, ne_WorkQueue__working__most_p, ne_WorkQueue__working__waiting_p, ne_WorkQueue__working__ticks_p, ne_WorkQueue__working__failures_p, ne_WorkQueue__ticks__most_p, ne_WorkQueue__ticks__waiting_p, ne_WorkQueue__ticks__working_p, ne_WorkQueue__ticks__failures_p, ne_WorkQueue__failures__most_p, ne_WorkQueue__failures__waiting_p, ne_WorkQueue__failures__working_p, ne_WorkQueue__failures__ticks_p, ne_WorkQueue_add__most_p, ne_WorkQueue_add__waiting_p, ne_WorkQueue_add__working_p, ne_WorkQueue_add__ticks_p, ne_WorkQueue_add__failures_p, ne_WorkQueue_add_later__most_p, ne_WorkQueue_add_later__waiting_p, ne_WorkQueue_add_later__working_p, ne_WorkQueue_add_later__ticks_p, ne_WorkQueue_add_later__failures_p, ne_WorkQueue_tick__most_p, ne_WorkQueue_tick__waiting_p, ne_WorkQueue_tick__working_p, ne_WorkQueue_tick__ticks_p, ne_WorkQueue_tick__failures_p, ne_WorkQueue_take__most_p, ne_WorkQueue_take__waiting_p, ne_WorkQueue_take__working_p, ne_WorkQueue_take__ticks_p, ne_WorkQueue_take__failures_p, ne_WorkQueue_finish__most_p, ne_WorkQueue_finish__waiting_p, ne_WorkQueue_finish__working_p, ne_WorkQueue_finish__ticks_p, ne_WorkQueue_finish__failures_p, ne_WorkQueue_fail__most_p, ne_WorkQueue_fail__waiting_p, ne_WorkQueue_fail__working_p, ne_WorkQueue_fail__ticks_p, ne_WorkQueue_fail__failures_p, ne_WorkQueue__leave__most_p, ne_WorkQueue__leave__waiting_p, ne_WorkQueue__leave__working_p, ne_WorkQueue__leave__ticks_p, ne_WorkQueue__leave__failures_p, ne_WorkQueue__delay__most_p, ne_WorkQueue__delay__waiting_p, ne_WorkQueue__delay__working_p, ne_WorkQueue__delay__ticks_p, ne_WorkQueue__delay__failures_p, ne_WorkQueue_waiting__most_p, ne_WorkQueue_waiting__waiting_p, ne_WorkQueue_waiting__working_p, ne_WorkQueue_waiting__ticks_p, ne_WorkQueue_waiting__failures_p, ne_WorkQueue_in_work__most_p, ne_WorkQueue_in_work__waiting_p, ne_WorkQueue_in_work__working_p, ne_WorkQueue_in_work__ticks_p, ne_WorkQueue_in_work__failures_p, ne_WorkQueue_delayed__most_p, ne_WorkQueue_delayed__waiting_p, ne_WorkQueue_delayed__working_p, ne_WorkQueue_delayed__ticks_p, ne_WorkQueue_delayed__failures_p, ne_WorkQueue_failures__most_p, ne_WorkQueue_failures__waiting_p, ne_WorkQueue_failures__working_p, ne_WorkQueue_failures__ticks_p, ne_WorkQueue_failures__failures_p]
theorem fl_WorkQueue_no_add {v0 v1 v2 v3 v4 : V} : (fl_WorkQueue v0 v1 v2 v3 v4).lookup ("add" : Str) = none := by unfold fl_WorkQueue; simp [List.lookup, ne_WorkQueue__most__waiting, ne_WorkQueue__most__working, ne_WorkQueue__most__ticks, ne_WorkQueue__most__failures, ne_WorkQueue__waiting__most, ne_WorkQueue__waiting__working, ne_WorkQueue__waiting__ticks, ne_WorkQueue__waiting__failures, ne_WorkQueue__working__most, ne_WorkQueue__working__waiting, ne_WorkQueue__working__ticks, ne_WorkQueue__working__failures, ne_WorkQueue__ticks__most, ne_WorkQueue__ticks__waiting, ne_WorkQueue__ticks__working, ne_WorkQueue__ticks__failures, ne_WorkQueue__failures__most, ne_WorkQueue__failures__waiting, ne_WorkQueue__failures__working, ne_WorkQueue__failures__ticks, ne_WorkQueue_add__most, ne_WorkQueue_add__waiting, ne_WorkQueue_add__working, ne_WorkQueue_add__ticks, ne_WorkQueue_add__failures, ne_WorkQueue_add_later__most, ne_WorkQueue_add_later__waiting, ne_WorkQueue_add_later__working, ne_WorkQueue_add_later__ticks, ne_WorkQueue_add_later__failures, ne_WorkQueue_tick__most, ne_WorkQueue_tick__waiting, ne_WorkQueue_tick__working, ne_WorkQueue_tick__ticks, ne_WorkQueue_tick__failures, ne_WorkQueue_take__most, ne_WorkQueue_take__waiting, ne_WorkQueue_take__working, ne_WorkQueue_take__ticks, ne_WorkQueue_take__failures, ne_WorkQueue_finish__most, ne_WorkQueue_finish__waiting, ne_WorkQueue_finish__working, ne_WorkQueue_finish__ticks, ne_WorkQueue_finish__failures, ne_WorkQueue_fail__most, ne_WorkQueue_fail__waiting, ne_WorkQueue_fail__working, ne_WorkQueue_fail__ticks, ne_WorkQueue_fail__failures, ne_WorkQueue__leave__most, ne_WorkQueue__leave__waiting, ne_WorkQueue__leave__working, ne_WorkQueue__leave__ticks, ne_WorkQueue__leave__failures, ne_WorkQueue__delay__most, ne_WorkQueue__delay__waiting, ne_WorkQueue__delay__working, ne_WorkQueue__delay__ticks, ne_WorkQueue__delay__failures, ne_WorkQueue_waiting__most, ne_WorkQueue_waiting__waiting, ne_WorkQueue_waiting__working, ne_WorkQueue_waiting__ticks, ne_WorkQueue_waiting__failures, ne_WorkQueue_in_work__most, ne_WorkQueue_in_work__waiting, ne_WorkQueue_in_work__working, ne_WorkQueue_in_work__ticks, ne_WorkQueue_in_work__failures, ne_WorkQueue_delayed__most, ne_WorkQueue_delayed__waiting, ne_WorkQueue_delayed__working, ne_WorkQueue_delayed__ticks, ne_WorkQueue_delayed__failures, ne_WorkQueue_failures__most, ne_WorkQueue_failures__waiting, ne_WorkQueue_failures__working, ne_WorkQueue_failures__ticks, ne_WorkQueue_failures__failures, ne_WorkQueue__most__waiting_p, ne_WorkQueue__most__working_p, ne_WorkQueue__most__ticks_p, ne_WorkQueue__most__failures_p, ne_WorkQueue__waiting__most_p, ne_WorkQueue__waiting__working_p, ne_WorkQueue__waiting__ticks_p, ne_WorkQueue__waiting__failures_p, ne_WorkQueue__working__most_p, ne_WorkQueue__working__waiting_p, ne_WorkQueue__working__ticks_p, ne_WorkQueue__working__failures_p, ne_WorkQueue__ticks__most_p, ne_WorkQueue__ticks__waiting_p, ne_WorkQueue__ticks__working_p, ne_WorkQueue__ticks__failures_p, ne_WorkQueue__failures__most_p, ne_WorkQueue__failures__waiting_p, ne_WorkQueue__failures__working_p, ne_WorkQueue__failures__ticks_p, ne_WorkQueue_add__most_p, ne_WorkQueue_add__waiting_p, ne_WorkQueue_add__working_p, ne_WorkQueue_add__ticks_p, ne_WorkQueue_add__failures_p, ne_WorkQueue_add_later__most_p, ne_WorkQueue_add_later__waiting_p, ne_WorkQueue_add_later__working_p, ne_WorkQueue_add_later__ticks_p, ne_WorkQueue_add_later__failures_p, ne_WorkQueue_tick__most_p, ne_WorkQueue_tick__waiting_p, ne_WorkQueue_tick__working_p, ne_WorkQueue_tick__ticks_p, ne_WorkQueue_tick__failures_p, ne_WorkQueue_take__most_p, ne_WorkQueue_take__waiting_p, ne_WorkQueue_take__working_p, ne_WorkQueue_take__ticks_p, ne_WorkQueue_take__failures_p, ne_WorkQueue_finish__most_p, ne_WorkQueue_finish__waiting_p, ne_WorkQueue_finish__working_p, ne_WorkQueue_finish__ticks_p, ne_WorkQueue_finish__failures_p, ne_WorkQueue_fail__most_p, ne_WorkQueue_fail__waiting_p, ne_WorkQueue_fail__working_p, ne_WorkQueue_fail__ticks_p, ne_WorkQueue_fail__failures_p, ne_WorkQueue__leave__most_p, ne_WorkQueue__leave__waiting_p, ne_WorkQueue__leave__working_p, ne_WorkQueue__leave__ticks_p, ne_WorkQueue__leave__failures_p, ne_WorkQueue__delay__most_p, ne_WorkQueue__delay__waiting_p, ne_WorkQueue__delay__working_p, ne_WorkQueue__delay__ticks_p, ne_WorkQueue__delay__failures_p, ne_WorkQueue_waiting__most_p, ne_WorkQueue_waiting__waiting_p, ne_WorkQueue_waiting__working_p, ne_WorkQueue_waiting__ticks_p, ne_WorkQueue_waiting__failures_p, ne_WorkQueue_in_work__most_p, ne_WorkQueue_in_work__waiting_p, ne_WorkQueue_in_work__working_p, ne_WorkQueue_in_work__ticks_p, ne_WorkQueue_in_work__failures_p, ne_WorkQueue_delayed__most_p, ne_WorkQueue_delayed__waiting_p, ne_WorkQueue_delayed__working_p, ne_WorkQueue_delayed__ticks_p, ne_WorkQueue_delayed__failures_p, ne_WorkQueue_failures__most_p, ne_WorkQueue_failures__waiting_p, ne_WorkQueue_failures__working_p, ne_WorkQueue_failures__ticks_p, ne_WorkQueue_failures__failures_p]
theorem fl_WorkQueue_no_add_later {v0 v1 v2 v3 v4 : V} : (fl_WorkQueue v0 v1 v2 v3 v4).lookup ("add_later" : Str) = none := by unfold fl_WorkQueue; simp [List.lookup, ne_WorkQueue__most__waiting, ne_WorkQueue__most__working, ne_WorkQueue__most__ticks, ne_WorkQueue__most__failures, ne_WorkQueue__waiting__most, ne_WorkQueue__waiting__working, ne_WorkQueue__waiting__ticks, ne_WorkQueue__waiting__failures, ne_WorkQueue__working__most, ne_WorkQueue__working__waiting, ne_WorkQueue__working__ticks, ne_WorkQueue__working__failures, ne_WorkQueue__ticks__most, ne_WorkQueue__ticks__waiting, ne_WorkQueue__ticks__working, ne_WorkQueue__ticks__failures, ne_WorkQueue__failures__most, ne_WorkQueue__failures__waiting, ne_WorkQueue__failures__working, ne_WorkQueue__failures__ticks, ne_WorkQueue_add__most, ne_WorkQueue_add__waiting, ne_WorkQueue_add__working, ne_WorkQueue_add__ticks, ne_WorkQueue_add__failures, ne_WorkQueue_add_later__most, ne_WorkQueue_add_later__waiting, ne_WorkQueue_add_later__working, ne_WorkQueue_add_later__ticks, ne_WorkQueue_add_later__failures, ne_WorkQueue_tick__most, ne_WorkQueue_tick__waiting, ne_WorkQueue_tick__working, ne_WorkQueue_tick__ticks, ne_WorkQueue_tick__failures, ne_WorkQueue_take__most, ne_WorkQueue_take__waiting, ne_WorkQueue_take__working, ne_WorkQueue_take__ticks, ne_WorkQueue_take__failures, ne_WorkQueue_finish__most, ne_WorkQueue_finish__waiting, ne_WorkQueue_finish__working, ne_WorkQueue_finish__ticks, ne_WorkQueue_finish__failures, ne_WorkQueue_fail__most, ne_WorkQueue_fail__waiting, ne_WorkQueue_fail__working, ne_WorkQueue_fail__ticks, ne_WorkQueue_fail__failures, ne_WorkQueue__leave__most, ne_WorkQueue__leave__waiting, ne_WorkQueue__leave__working, ne_WorkQueue__leave__ticks, ne_WorkQueue__leave__failures, ne_WorkQueue__delay__most, ne_WorkQueue__delay__waiting, ne_WorkQueue__delay__working, ne_WorkQueue__delay__ticks, ne_WorkQueue__delay__failures, ne_WorkQueue_waiting__most, ne_WorkQueue_waiting__waiting, ne_WorkQueue_waiting__working, ne_WorkQueue_waiting__ticks, ne_WorkQueue_waiting__failures, ne_WorkQueue_in_work__most, ne_WorkQueue_in_work__waiting, ne_WorkQueue_in_work__working, ne_WorkQueue_in_work__ticks, ne_WorkQueue_in_work__failures, ne_WorkQueue_delayed__most, ne_WorkQueue_delayed__waiting, ne_WorkQueue_delayed__working, ne_WorkQueue_delayed__ticks, ne_WorkQueue_delayed__failures, ne_WorkQueue_failures__most, ne_WorkQueue_failures__waiting, ne_WorkQueue_failures__working, ne_WorkQueue_failures__ticks, ne_WorkQueue_failures__failures, ne_WorkQueue__most__waiting_p, ne_WorkQueue__most__working_p, ne_WorkQueue__most__ticks_p, ne_WorkQueue__most__failures_p, ne_WorkQueue__waiting__most_p, ne_WorkQueue__waiting__working_p, ne_WorkQueue__waiting__ticks_p, ne_WorkQueue__waiting__failures_p, ne_WorkQueue__working__most_p, ne_WorkQueue__working__waiting_p, ne_WorkQueue__working__ticks_p, ne_WorkQueue__working__failures_p, ne_WorkQueue__ticks__most_p, ne_WorkQueue__ticks__waiting_p, ne_WorkQueue__ticks__working_p, ne_WorkQueue__ticks__failures_p, ne_WorkQueue__failures__most_p, ne_WorkQueue__failures__waiting_p, ne_WorkQueue__failures__working_p, ne_WorkQueue__failures__ticks_p, ne_WorkQueue_add__most_p, ne_WorkQueue_add__waiting_p, ne_WorkQueue_add__working_p, ne_WorkQueue_add__ticks_p, ne_WorkQueue_add__failures_p, ne_WorkQueue_add_later__most_p, ne_WorkQueue_add_later__waiting_p, ne_WorkQueue_add_later__working_p, ne_WorkQueue_add_later__ticks_p, ne_WorkQueue_add_later__failures_p, ne_WorkQueue_tick__most_p, ne_WorkQueue_tick__waiting_p, ne_WorkQueue_tick__working_p, ne_WorkQueue_tick__ticks_p, ne_WorkQueue_tick__failures_p, ne_WorkQueue_take__most_p, ne_WorkQueue_take__waiting_p, ne_WorkQueue_take__working_p, ne_WorkQueue_take__ticks_p, ne_WorkQueue_take__failures_p, ne_WorkQueue_finish__most_p, ne_WorkQueue_finish__waiting_p, ne_WorkQueue_finish__working_p, ne_WorkQueue_finish__ticks_p, ne_WorkQueue_finish__failures_p, ne_WorkQueue_fail__most_p, ne_WorkQueue_fail__waiting_p, ne_WorkQueue_fail__working_p, ne_WorkQueue_fail__ticks_p, ne_WorkQueue_fail__failures_p, ne_WorkQueue__leave__most_p, ne_WorkQueue__leave__waiting_p, ne_WorkQueue__leave__working_p, ne_WorkQueue__leave__ticks_p, ne_WorkQueue__leave__failures_p, ne_WorkQueue__delay__most_p, ne_WorkQueue__delay__waiting_p, ne_WorkQueue__delay__working_p, ne_WorkQueue__delay__ticks_p, ne_WorkQueue__delay__failures_p, ne_WorkQueue_waiting__most_p, ne_WorkQueue_waiting__waiting_p, ne_WorkQueue_waiting__working_p, ne_WorkQueue_waiting__ticks_p, ne_WorkQueue_waiting__failures_p, ne_WorkQueue_in_work__most_p, ne_WorkQueue_in_work__waiting_p, ne_WorkQueue_in_work__working_p, ne_WorkQueue_in_work__ticks_p, ne_WorkQueue_in_work__failures_p, ne_WorkQueue_delayed__most_p, ne_WorkQueue_delayed__waiting_p, ne_WorkQueue_delayed__working_p, ne_WorkQueue_delayed__ticks_p, ne_WorkQueue_delayed__failures_p, ne_WorkQueue_failures__most_p, ne_WorkQueue_failures__waiting_p, ne_WorkQueue_failures__working_p, ne_WorkQueue_failures__ticks_p, ne_WorkQueue_failures__failures_p]
theorem fl_WorkQueue_no_tick {v0 v1 v2 v3 v4 : V} : (fl_WorkQueue v0 v1 v2 v3 v4).lookup ("tick" : Str) = none := by unfold fl_WorkQueue; simp [List.lookup, ne_WorkQueue__most__waiting, ne_WorkQueue__most__working, ne_WorkQueue__most__ticks, ne_WorkQueue__most__failures, ne_WorkQueue__waiting__most, ne_WorkQueue__waiting__working, ne_WorkQueue__waiting__ticks, ne_WorkQueue__waiting__failures, ne_WorkQueue__working__most, ne_WorkQueue__working__waiting, ne_WorkQueue__working__ticks, ne_WorkQueue__working__failures, ne_WorkQueue__ticks__most, ne_WorkQueue__ticks__waiting, ne_WorkQueue__ticks__working, ne_WorkQueue__ticks__failures, ne_WorkQueue__failures__most, ne_WorkQueue__failures__waiting, ne_WorkQueue__failures__working, ne_WorkQueue__failures__ticks, ne_WorkQueue_add__most, ne_WorkQueue_add__waiting, ne_WorkQueue_add__working, ne_WorkQueue_add__ticks, ne_WorkQueue_add__failures, ne_WorkQueue_add_later__most, ne_WorkQueue_add_later__waiting, ne_WorkQueue_add_later__working, ne_WorkQueue_add_later__ticks, ne_WorkQueue_add_later__failures, ne_WorkQueue_tick__most, ne_WorkQueue_tick__waiting, ne_WorkQueue_tick__working, ne_WorkQueue_tick__ticks, ne_WorkQueue_tick__failures, ne_WorkQueue_take__most, ne_WorkQueue_take__waiting, ne_WorkQueue_take__working, ne_WorkQueue_take__ticks, ne_WorkQueue_take__failures, ne_WorkQueue_finish__most, ne_WorkQueue_finish__waiting, ne_WorkQueue_finish__working, ne_WorkQueue_finish__ticks, ne_WorkQueue_finish__failures, ne_WorkQueue_fail__most, ne_WorkQueue_fail__waiting, ne_WorkQueue_fail__working, ne_WorkQueue_fail__ticks, ne_WorkQueue_fail__failures, ne_WorkQueue__leave__most, ne_WorkQueue__leave__waiting, ne_WorkQueue__leave__working, ne_WorkQueue__leave__ticks, ne_WorkQueue__leave__failures, ne_WorkQueue__delay__most, ne_WorkQueue__delay__waiting, ne_WorkQueue__delay__working, ne_WorkQueue__delay__ticks, ne_WorkQueue__delay__failures, ne_WorkQueue_waiting__most, ne_WorkQueue_waiting__waiting, ne_WorkQueue_waiting__working, ne_WorkQueue_waiting__ticks, ne_WorkQueue_waiting__failures, ne_WorkQueue_in_work__most, ne_WorkQueue_in_work__waiting, ne_WorkQueue_in_work__working, ne_WorkQueue_in_work__ticks, ne_WorkQueue_in_work__failures, ne_WorkQueue_delayed__most, ne_WorkQueue_delayed__waiting, ne_WorkQueue_delayed__working, ne_WorkQueue_delayed__ticks, ne_WorkQueue_delayed__failures, ne_WorkQueue_failures__most, ne_WorkQueue_failures__waiting, ne_WorkQueue_failures__working, ne_WorkQueue_failures__ticks, ne_WorkQueue_failures__failures, ne_WorkQueue__most__waiting_p, ne_WorkQueue__most__working_p, ne_WorkQueue__most__ticks_p, ne_WorkQueue__most__failures_p, ne_WorkQueue__waiting__most_p, ne_WorkQueue__waiting__working_p, ne_WorkQueue__waiting__ticks_p, ne_WorkQueue__waiting__failures_p, ne_WorkQueue__working__most_p, ne_WorkQueue__working__waiting_p, ne_WorkQueue__working__ticks_p, ne_WorkQueue__working__failures_p, ne_WorkQueue__ticks__most_p, ne_WorkQueue__ticks__waiting_p, ne_WorkQueue__ticks__working_p, ne_WorkQueue__ticks__failures_p, ne_WorkQueue__failures__most_p, ne_WorkQueue__failures__waiting_p, ne_WorkQueue__failures__working_p, ne_WorkQueue__failures__ticks_p, ne_WorkQueue_add__most_p, ne_WorkQueue_add__waiting_p, ne_WorkQueue_add__working_p, ne_WorkQueue_add__ticks_p, ne_WorkQueue_add__failures_p, ne_WorkQueue_add_later__most_p, ne_WorkQueue_add_later__waiting_p, ne_WorkQueue_add_later__working_p, ne_WorkQueue_add_later__ticks_p, ne_WorkQueue_add_later__failures_p, ne_WorkQueue_tick__most_p, ne_WorkQueue_tick__waiting_p, ne_WorkQueue_tick__working_p, ne_WorkQueue_tick__ticks_p, ne_WorkQueue_tick__failures_p, ne_WorkQueue_take__most_p, ne_WorkQueue_take__waiting_p, ne_WorkQueue_take__working_p, ne_WorkQueue_take__ticks_p, ne_WorkQueue_take__failures_p, ne_WorkQueue_finish__most_p, ne_WorkQueue_finish__waiting_p, ne_WorkQueue_finish__working_p, ne_WorkQueue_finish__ticks_p, ne_WorkQueue_finish__failures_p, ne_WorkQueue_fail__most_p, ne_WorkQueue_fail__waiting_p, ne_WorkQueue_fail__working_p, ne_WorkQueue_fail__ticks_p, ne_WorkQueue_fail__failures_p, ne_WorkQueue__leave__most_p, ne_WorkQueue__leave__waiting_p, ne_WorkQueue__leave__working_p, ne_WorkQueue__leave__ticks_p, ne_WorkQueue__leave__failures_p, ne_WorkQueue__delay__most_p, ne_WorkQueue__delay__waiting_p, ne_WorkQueue__delay__working_p, ne_WorkQueue__delay__ticks_p, ne_WorkQueue__delay__failures_p, ne_WorkQueue_waiting__most_p, ne_WorkQueue_waiting__waiting_p, ne_WorkQueue_waiting__working_p, ne_WorkQueue_waiting__ticks_p, ne_WorkQueue_waiting__failures_p, ne_WorkQueue_in_work__most_p, ne_WorkQueue_in_work__waiting_p, ne_WorkQueue_in_work__working_p, ne_WorkQueue_in_work__ticks_p, ne_WorkQueue_in_work__failures_p, ne_WorkQueue_delayed__most_p, ne_WorkQueue_delayed__waiting_p, ne_WorkQueue_delayed__working_p, ne_WorkQueue_delayed__ticks_p, ne_WorkQueue_delayed__failures_p, ne_WorkQueue_failures__most_p, ne_WorkQueue_failures__waiting_p, ne_WorkQueue_failures__working_p, ne_WorkQueue_failures__ticks_p, ne_WorkQueue_failures__failures_p]
theorem fl_WorkQueue_no_take {v0 v1 v2 v3 v4 : V} : (fl_WorkQueue v0 v1 v2 v3 v4).lookup ("take" : Str) = none := by unfold fl_WorkQueue; simp [List.lookup, ne_WorkQueue__most__waiting, ne_WorkQueue__most__working, ne_WorkQueue__most__ticks, ne_WorkQueue__most__failures, ne_WorkQueue__waiting__most, ne_WorkQueue__waiting__working, ne_WorkQueue__waiting__ticks, ne_WorkQueue__waiting__failures, ne_WorkQueue__working__most, ne_WorkQueue__working__waiting, ne_WorkQueue__working__ticks, ne_WorkQueue__working__failures, ne_WorkQueue__ticks__most, ne_WorkQueue__ticks__waiting, ne_WorkQueue__ticks__working, ne_WorkQueue__ticks__failures, ne_WorkQueue__failures__most, ne_WorkQueue__failures__waiting, ne_WorkQueue__failures__working, ne_WorkQueue__failures__ticks, ne_WorkQueue_add__most, ne_WorkQueue_add__waiting, ne_WorkQueue_add__working, ne_WorkQueue_add__ticks, ne_WorkQueue_add__failures, ne_WorkQueue_add_later__most, ne_WorkQueue_add_later__waiting, ne_WorkQueue_add_later__working, ne_WorkQueue_add_later__ticks, ne_WorkQueue_add_later__failures, ne_WorkQueue_tick__most, ne_WorkQueue_tick__waiting, ne_WorkQueue_tick__working, ne_WorkQueue_tick__ticks, ne_WorkQueue_tick__failures, ne_WorkQueue_take__most, ne_WorkQueue_take__waiting, ne_WorkQueue_take__working, ne_WorkQueue_take__ticks, ne_WorkQueue_take__failures, ne_WorkQueue_finish__most, ne_WorkQueue_finish__waiting, ne_WorkQueue_finish__working, ne_WorkQueue_finish__ticks, ne_WorkQueue_finish__failures, ne_WorkQueue_fail__most, ne_WorkQueue_fail__waiting, ne_WorkQueue_fail__working, ne_WorkQueue_fail__ticks, ne_WorkQueue_fail__failures, ne_WorkQueue__leave__most, ne_WorkQueue__leave__waiting, ne_WorkQueue__leave__working, ne_WorkQueue__leave__ticks, ne_WorkQueue__leave__failures, ne_WorkQueue__delay__most, ne_WorkQueue__delay__waiting, ne_WorkQueue__delay__working, ne_WorkQueue__delay__ticks, ne_WorkQueue__delay__failures, ne_WorkQueue_waiting__most, ne_WorkQueue_waiting__waiting, ne_WorkQueue_waiting__working, ne_WorkQueue_waiting__ticks, ne_WorkQueue_waiting__failures, ne_WorkQueue_in_work__most, ne_WorkQueue_in_work__waiting, ne_WorkQueue_in_work__working, ne_WorkQueue_in_work__ticks, ne_WorkQueue_in_work__failures, ne_WorkQueue_delayed__most, ne_WorkQueue_delayed__waiting, ne_WorkQueue_delayed__working, ne_WorkQueue_delayed__ticks, ne_WorkQueue_delayed__failures, ne_WorkQueue_failures__most, ne_WorkQueue_failures__waiting, ne_WorkQueue_failures__working, ne_WorkQueue_failures__ticks, ne_WorkQueue_failures__failures, ne_WorkQueue__most__waiting_p, ne_WorkQueue__most__working_p, ne_WorkQueue__most__ticks_p, ne_WorkQueue__most__failures_p, ne_WorkQueue__waiting__most_p, ne_WorkQueue__waiting__working_p, ne_WorkQueue__waiting__ticks_p, ne_WorkQueue__waiting__failures_p, ne_WorkQueue__working__most_p, ne_WorkQueue__working__waiting_p, ne_WorkQueue__working__ticks_p, ne_WorkQueue__working__failures_p, ne_WorkQueue__ticks__most_p, ne_WorkQueue__ticks__waiting_p, ne_WorkQueue__ticks__working_p, ne_WorkQueue__ticks__failures_p, ne_WorkQueue__failures__most_p, ne_WorkQueue__failures__waiting_p, ne_WorkQueue__failures__working_p, ne_WorkQueue__failures__ticks_p, ne_WorkQueue_add__most_p, ne_WorkQueue_add__waiting_p, ne_WorkQueue_add__working_p, ne_WorkQueue_add__ticks_p, ne_WorkQueue_add__failures_p, ne_WorkQueue_add_later__most_p, ne_WorkQueue_add_later__waiting_p, ne_WorkQueue_add_later__working_p, ne_WorkQueue_add_later__ticks_p, ne_WorkQueue_add_later__failures_p, ne_WorkQueue_tick__most_p, ne_WorkQueue_tick__waiting_p, ne_WorkQueue_tick__working_p, ne_WorkQueue_tick__ticks_p, ne_WorkQueue_tick__failures_p, ne_WorkQueue_take__most_p, ne_WorkQueue_take__waiting_p, ne_WorkQueue_take__working_p, ne_WorkQueue_take__ticks_p, ne_WorkQueue_take__failures_p, ne_WorkQueue_finish__most_p, ne_WorkQueue_finish__waiting_p, ne_WorkQueue_finish__working_p, ne_WorkQueue_finish__ticks_p, ne_WorkQueue_finish__failures_p, ne_WorkQueue_fail__most_p, ne_WorkQueue_fail__waiting_p, ne_WorkQueue_fail__working_p, ne_WorkQueue_fail__ticks_p, ne_WorkQueue_fail__failures_p, ne_WorkQueue__leave__most_p, ne_WorkQueue__leave__waiting_p, ne_WorkQueue__leave__working_p, ne_WorkQueue__leave__ticks_p, ne_WorkQueue__leave__failures_p, ne_WorkQueue__delay__most_p, ne_WorkQueue__delay__waiting_p, ne_WorkQueue__delay__working_p, ne_WorkQueue__delay__ticks_p, ne_WorkQueue__delay__failures_p, ne_WorkQueue_waiting__most_p, ne_WorkQueue_waiting__waiting_p, ne_WorkQueue_waiting__working_p, ne_WorkQueue_waiting__ticks_p, ne_WorkQueue_waiting__failures_p, ne_WorkQueue_in_work__most_p, ne_WorkQueue_in_work__waiting_p, ne_WorkQueue_in_work__working_p, ne_WorkQueue_in_work__ticks_p, ne_WorkQueue_in_work__failures_p, ne_WorkQueue_delayed__most_p, ne_WorkQueue_delayed__waiting_p, ne_WorkQueue_delayed__working_p, ne_WorkQueue_delayed__ticks_p, ne_WorkQueue_delayed__failures_p, ne_WorkQueue_failures__most_p, ne_WorkQueue_failures__waiting_p, ne_WorkQueue_failures__working_p, ne_WorkQueue_failures__ticks_p, ne_WorkQueue_failures__failures_p]
theorem fl_WorkQueue_no_finish {v0 v1 v2 v3 v4 : V} : (fl_WorkQueue v0 v1 v2 v3 v4).lookup ("finish" : Str) = none := by unfold fl_WorkQueue; simp [List.lookup, ne_WorkQueue__most__waiting, ne_WorkQueue__most__working, ne_WorkQueue__most__ticks, ne_WorkQueue__most__failures, ne_WorkQueue__waiting__most, ne_WorkQueue__waiting__working, ne_WorkQueue__waiting__ticks, ne_WorkQueue__waiting__failures, ne_WorkQueue__working__most, ne_WorkQueue__working__waiting, ne_WorkQueue__working__ticks, ne_WorkQueue__working__failures, ne_WorkQueue__ticks__most, ne_WorkQueue__ticks__waiting, ne_WorkQueue__ticks__working, ne_WorkQueue__ticks__failures, ne_WorkQueue__failures__most, ne_WorkQueue__failures__waiting, ne_WorkQueue__failures__working, ne_WorkQueue__failures__ticks, ne_WorkQueue_add__most, ne_WorkQueue_add__waiting, ne_WorkQueue_add__working, ne_WorkQueue_add__ticks, ne_WorkQueue_add__failures, ne_WorkQueue_add_later__most, ne_WorkQueue_add_later__waiting, ne_WorkQueue_add_later__working, ne_WorkQueue_add_later__ticks, ne_WorkQueue_add_later__failures, ne_WorkQueue_tick__most, ne_WorkQueue_tick__waiting, ne_WorkQueue_tick__working, ne_WorkQueue_tick__ticks, ne_WorkQueue_tick__failures, ne_WorkQueue_take__most, ne_WorkQueue_take__waiting, ne_WorkQueue_take__working, ne_WorkQueue_take__ticks, ne_WorkQueue_take__failures, ne_WorkQueue_finish__most, ne_WorkQueue_finish__waiting, ne_WorkQueue_finish__working, ne_WorkQueue_finish__ticks, ne_WorkQueue_finish__failures, ne_WorkQueue_fail__most, ne_WorkQueue_fail__waiting, ne_WorkQueue_fail__working, ne_WorkQueue_fail__ticks, ne_WorkQueue_fail__failures, ne_WorkQueue__leave__most, ne_WorkQueue__leave__waiting, ne_WorkQueue__leave__working, ne_WorkQueue__leave__ticks, ne_WorkQueue__leave__failures, ne_WorkQueue__delay__most, ne_WorkQueue__delay__waiting, ne_WorkQueue__delay__working, ne_WorkQueue__delay__ticks, ne_WorkQueue__delay__failures, ne_WorkQueue_waiting__most, ne_WorkQueue_waiting__waiting, ne_WorkQueue_waiting__working, ne_WorkQueue_waiting__ticks, ne_WorkQueue_waiting__failures, ne_WorkQueue_in_work__most, ne_WorkQueue_in_work__waiting, ne_WorkQueue_in_work__working, ne_WorkQueue_in_work__ticks, ne_WorkQueue_in_work__failures, ne_WorkQueue_delayed__most, ne_WorkQueue_delayed__waiting, ne_WorkQueue_delayed__working, ne_WorkQueue_delayed__ticks, ne_WorkQueue_delayed__failures, ne_WorkQueue_failures__most, ne_WorkQueue_failures__waiting, ne_WorkQueue_failures__working, ne_WorkQueue_failures__ticks, ne_WorkQueue_failures__failures, ne_WorkQueue__most__waiting_p, ne_WorkQueue__most__working_p, ne_WorkQueue__most__ticks_p, ne_WorkQueue__most__failures_p, ne_WorkQueue__waiting__most_p, ne_WorkQueue__waiting__working_p, ne_WorkQueue__waiting__ticks_p, ne_WorkQueue__waiting__failures_p, ne_WorkQueue__working__most_p, ne_WorkQueue__working__waiting_p, ne_WorkQueue__working__ticks_p, ne_WorkQueue__working__failures_p, ne_WorkQueue__ticks__most_p, ne_WorkQueue__ticks__waiting_p, ne_WorkQueue__ticks__working_p, ne_WorkQueue__ticks__failures_p, ne_WorkQueue__failures__most_p, ne_WorkQueue__failures__waiting_p, ne_WorkQueue__failures__working_p, ne_WorkQueue__failures__ticks_p, ne_WorkQueue_add__most_p, ne_WorkQueue_add__waiting_p, ne_WorkQueue_add__working_p, ne_WorkQueue_add__ticks_p, ne_WorkQueue_add__failures_p, ne_WorkQueue_add_later__most_p, ne_WorkQueue_add_later__waiting_p, ne_WorkQueue_add_later__working_p, ne_WorkQueue_add_later__ticks_p, ne_WorkQueue_add_later__failures_p, ne_WorkQueue_tick__most_p, ne_WorkQueue_tick__waiting_p, ne_WorkQueue_tick__working_p, ne_WorkQueue_tick__ticks_p, ne_WorkQueue_tick__failures_p, ne_WorkQueue_take__most_p, ne_WorkQueue_take__waiting_p, ne_WorkQueue_take__working_p, ne_WorkQueue_take__ticks_p, ne_WorkQueue_take__failures_p, ne_WorkQueue_finish__most_p, ne_WorkQueue_finish__waiting_p, ne_WorkQueue_finish__working_p, ne_WorkQueue_finish__ticks_p, ne_WorkQueue_finish__failures_p, ne_WorkQueue_fail__most_p, ne_WorkQueue_fail__waiting_p, ne_WorkQueue_fail__working_p, ne_WorkQueue_fail__ticks_p, ne_WorkQueue_fail__failures_p, ne_WorkQueue__leave__most_p, ne_WorkQueue__leave__waiting_p, ne_WorkQueue__leave__working_p, ne_WorkQueue__leave__ticks_p, ne_WorkQueue__leave__failures_p, ne_WorkQueue__delay__most_p, ne_WorkQueue__delay__waiting_p, ne_WorkQueue__delay__working_p, ne_WorkQueue__delay__ticks_p, ne_WorkQueue__delay__failures_p, ne_WorkQueue_waiting__most_p, ne_WorkQueue_waiting__waiting_p, ne_WorkQueue_waiting__working_p, ne_WorkQueue_waiting__ticks_p, ne_WorkQueue_waiting__failures_p, ne_WorkQueue_in_work__most_p, ne_WorkQueue_in_work__waiting_p, ne_WorkQueue_in_work__working_p, ne_WorkQueue_in_work__ticks_p, ne_WorkQueue_in_work__failures_p, ne_WorkQueue_delayed__most_p, ne_WorkQueue_delayed__waiting_p, ne_WorkQueue_delayed__working_p, ne_WorkQueue_delayed__ticks_p, ne_WorkQueue_delayed__failures_p, ne_WorkQueue_failures__most_p, ne_WorkQueue_failures__waiting_p, ne_WorkQueue_failures__working_p, ne_WorkQueue_failures__ticks_p, ne_WorkQueue_failures__failures_p]
theorem fl_WorkQueue_no_fail {v0 v1 v2 v3 v4 : V} : (fl_WorkQueue v0 v1 v2 v3 v4).lookup ("fail" : Str) = none := by unfold fl_WorkQueue; simp [List.lookup, ne_WorkQueue__most__waiting, ne_WorkQueue__most__working, ne_WorkQueue__most__ticks, ne_WorkQueue__most__failures, ne_WorkQueue__waiting__most, ne_WorkQueue__waiting__working, ne_WorkQueue__waiting__ticks, ne_WorkQueue__waiting__failures, ne_WorkQueue__working__most, ne_WorkQueue__working__waiting, ne_WorkQueue__working__ticks, ne_WorkQueue__working__failures, ne_WorkQueue__ticks__most, ne_WorkQueue__ticks__waiting, ne_WorkQueue__ticks__working, ne_WorkQueue__ticks__failures, ne_WorkQueue__failures__most, ne_WorkQueue__failures__waiting, ne_WorkQueue__failures__working, ne_WorkQueue__failures__ticks, ne_WorkQueue_add__most, ne_WorkQueue_add__waiting, ne_WorkQueue_add__working, ne_WorkQueue_add__ticks, ne_WorkQueue_add__failures, ne_WorkQueue_add_later__most, ne_WorkQueue_add_later__waiting, ne_WorkQueue_add_later__working, ne_WorkQueue_add_later__ticks, ne_WorkQueue_add_later__failures, ne_WorkQueue_tick__most, ne_WorkQueue_tick__waiting, ne_WorkQueue_tick__working, ne_WorkQueue_tick__ticks, ne_WorkQueue_tick__failures, ne_WorkQueue_take__most, ne_WorkQueue_take__waiting, ne_WorkQueue_take__working, ne_WorkQueue_take__ticks, ne_WorkQueue_take__failures, ne_WorkQueue_finish__most, ne_WorkQueue_finish__waiting, ne_WorkQueue_finish__working, ne_WorkQueue_finish__ticks, ne_WorkQueue_finish__failures, ne_WorkQueue_fail__most, ne_WorkQueue_fail__waiting, ne_WorkQueue_fail__working, ne_WorkQueue_fail__ticks, ne_WorkQueue_fail__failures, ne_WorkQueue__leave__most, ne_WorkQueue__leave__waiting, ne_WorkQueue__leave__working, ne_WorkQueue__leave__ticks, ne_WorkQueue__leave__failures, ne_WorkQueue__delay__most, ne_WorkQueue__delay__waiting, ne_WorkQueue__delay__working, ne_WorkQueue__delay__ticks, ne_WorkQueue__delay__failures, ne_WorkQueue_waiting__most, ne_WorkQueue_waiting__waiting, ne_WorkQueue_waiting__working, ne_WorkQueue_waiting__ticks, ne_WorkQueue_waiting__failures, ne_WorkQueue_in_work__most, ne_WorkQueue_in_work__waiting, ne_WorkQueue_in_work__working, ne_WorkQueue_in_work__ticks, ne_WorkQueue_in_work__failures, ne_WorkQueue_delayed__most, ne_WorkQueue_delayed__waiting, ne_WorkQueue_delayed__working, ne_WorkQueue_delayed__ticks, ne_WorkQueue_delayed__failures, ne_WorkQueue_failures__most, ne_WorkQueue_failures__waiting, ne_WorkQueue_failures__working, ne_WorkQueue_failures__ticks, ne_WorkQueue_failures__failures, ne_WorkQueue__most__waiting_p, ne_WorkQueue__most__working_p, ne_WorkQueue__most__ticks_p, ne_WorkQueue__most__failures_p, ne_WorkQueue__waiting__most_p, ne_WorkQueue__waiting__working_p, ne_WorkQueue__waiting__ticks_p, ne_WorkQueue__waiting__failures_p, ne_WorkQueue__working__most_p, ne_WorkQueue__working__waiting_p, ne_WorkQueue__working__ticks_p, ne_WorkQueue__working__failures_p, ne_WorkQueue__ticks__most_p, ne_WorkQueue__ticks__waiting_p, ne_WorkQueue__ticks__working_p, ne_WorkQueue__ticks__failures_p, ne_WorkQueue__failures__most_p, ne_WorkQueue__failures__waiting_p, ne_WorkQueue__failures__working_p, ne_WorkQueue__failures__ticks_p, ne_WorkQueue_add__most_p, ne_WorkQueue_add__waiting_p, ne_WorkQueue_add__working_p, ne_WorkQueue_add__ticks_p, ne_WorkQueue_add__failures_p, ne_WorkQueue_add_later__most_p, ne_WorkQueue_add_later__waiting_p, ne_WorkQueue_add_later__working_p, ne_WorkQueue_add_later__ticks_p, ne_WorkQueue_add_later__failures_p, ne_WorkQueue_tick__most_p, ne_WorkQueue_tick__waiting_p, ne_WorkQueue_tick__working_p, ne_WorkQueue_tick__ticks_p, ne_WorkQueue_tick__failures_p, ne_WorkQueue_take__most_p, ne_WorkQueue_take__waiting_p, ne_WorkQueue_take__working_p, ne_WorkQueue_take__ticks_p, ne_WorkQueue_take__failures_p, ne_WorkQueue_finish__most_p, ne_WorkQueue_finish__waiting_p, ne_WorkQueue_finish__working_p, ne_WorkQueue_finish__ticks_p, ne_WorkQueue_finish__failures_p, ne_WorkQueue_fail__most_p, ne_WorkQueue_fail__waiting_p, ne_WorkQueue_fail__working_p, ne_WorkQueue_fail__ticks_p, ne_WorkQueue_fail__failures_p, ne_WorkQueue__leave__most_p, ne_WorkQueue__leave__waiting_p, ne_WorkQueue__leave__working_p, ne_WorkQueue__leave__ticks_p, ne_WorkQueue__leave__failures_p, ne_WorkQueue__delay__most_p, ne_WorkQueue__delay__waiting_p, ne_WorkQueue__delay__working_p, ne_WorkQueue__delay__ticks_p, ne_WorkQueue__delay__failures_p, ne_WorkQueue_waiting__most_p, ne_WorkQueue_waiting__waiting_p, ne_WorkQueue_waiting__working_p, ne_WorkQueue_waiting__ticks_p, ne_WorkQueue_waiting__failures_p, ne_WorkQueue_in_work__most_p, ne_WorkQueue_in_work__waiting_p, ne_WorkQueue_in_work__working_p, ne_WorkQueue_in_work__ticks_p, ne_WorkQueue_in_work__failures_p, ne_WorkQueue_delayed__most_p, ne_WorkQueue_delayed__waiting_p, ne_WorkQueue_delayed__working_p, ne_WorkQueue_delayed__ticks_p, ne_WorkQueue_delayed__failures_p, ne_WorkQueue_failures__most_p, ne_WorkQueue_failures__waiting_p, ne_WorkQueue_failures__working_p, ne_WorkQueue_failures__ticks_p, ne_WorkQueue_failures__failures_p]
theorem fl_WorkQueue_no__leave {v0 v1 v2 v3 v4 : V} : (fl_WorkQueue v0 v1 v2 v3 v4).lookup ("_leave" : Str) = none := by unfold fl_WorkQueue; simp [List.lookup, ne_WorkQueue__most__waiting, ne_WorkQueue__most__working, ne_WorkQueue__most__ticks, ne_WorkQueue__most__failures, ne_WorkQueue__waiting__most, ne_WorkQueue__waiting__working, ne_WorkQueue__waiting__ticks, ne_WorkQueue__waiting__failures, ne_WorkQueue__working__most, ne_WorkQueue__working__waiting, ne_WorkQueue__working__ticks, ne_WorkQueue__working__failures, ne_WorkQueue__ticks__most, ne_WorkQueue__ticks__waiting, ne_WorkQueue__ticks__working, ne_WorkQueue__ticks__failures, ne_WorkQueue__failures__most, ne_WorkQueue__failures__waiting, ne_WorkQueue__failures__working, ne_WorkQueue__failures__ticks, ne_WorkQueue_add__most, ne_WorkQueue_add__waiting, ne_WorkQueue_add__working, ne_WorkQueue_add__ticks, ne_WorkQueue_add__failures, ne_WorkQueue_add_later__most, ne_WorkQueue_add_later__waiting, ne_WorkQueue_add_later__working, ne_WorkQueue_add_later__ticks, ne_WorkQueue_add_later__failures, ne_WorkQueue_tick__most, ne_WorkQueue_tick__waiting, ne_WorkQueue_tick__working, ne_WorkQueue_tick__ticks, ne_WorkQueue_tick__failures, ne_WorkQueue_take__most, ne_WorkQueue_take__waiting, ne_WorkQueue_take__working, ne_WorkQueue_take__ticks, ne_WorkQueue_take__failures, ne_WorkQueue_finish__most, ne_WorkQueue_finish__waiting, ne_WorkQueue_finish__working, ne_WorkQueue_finish__ticks, ne_WorkQueue_finish__failures, ne_WorkQueue_fail__most, ne_WorkQueue_fail__waiting, ne_WorkQueue_fail__working, ne_WorkQueue_fail__ticks, ne_WorkQueue_fail__failures, ne_WorkQueue__leave__most, ne_WorkQueue__leave__waiting, ne_WorkQueue__leave__working, ne_WorkQueue__leave__ticks, ne_WorkQueue__leave__failures, ne_WorkQueue__delay__most, ne_WorkQueue__delay__waiting, ne_WorkQueue__delay__working, ne_WorkQueue__delay__ticks, ne_WorkQueue__delay__failures, ne_WorkQueue_waiting__most, ne_WorkQueue_waiting__waiting, ne_WorkQueue_waiting__working, ne_WorkQueue_waiting__ticks, ne_WorkQueue_waiting__failures, ne_WorkQueue_in_work__most, ne_WorkQueue_in_work__waiting, ne_WorkQueue_in_work__working, ne_WorkQueue_in_work__ticks, ne_WorkQueue_in_work__failures, ne_WorkQueue_delayed__most, ne_WorkQueue_delayed__waiting, ne_WorkQueue_delayed__working, ne_WorkQueue_delayed__ticks, ne_WorkQueue_delayed__failures, ne_WorkQueue_failures__most, ne_WorkQueue_failures__waiting, ne_WorkQueue_failures__working, ne_WorkQueue_failures__ticks, ne_WorkQueue_failures__failures, ne_WorkQueue__most__waiting_p, ne_WorkQueue__most__working_p, ne_WorkQueue__most__ticks_p, ne_WorkQueue__most__failures_p, ne_WorkQueue__waiting__most_p, ne_WorkQueue__waiting__working_p, ne_WorkQueue__waiting__ticks_p, ne_WorkQueue__waiting__failures_p, ne_WorkQueue__working__most_p, ne_WorkQueue__working__waiting_p, ne_WorkQueue__working__ticks_p, ne_WorkQueue__working__failures_p, ne_WorkQueue__ticks__most_p, ne_WorkQueue__ticks__waiting_p, ne_WorkQueue__ticks__working_p, ne_WorkQueue__ticks__failures_p, ne_WorkQueue__failures__most_p, ne_WorkQueue__failures__waiting_p, ne_WorkQueue__failures__working_p, ne_WorkQueue__failures__ticks_p, ne_WorkQueue_add__most_p, ne_WorkQueue_add__waiting_p, ne_WorkQueue_add__working_p, ne_WorkQueue_add__ticks_p, ne_WorkQueue_add__failures_p, ne_WorkQueue_add_later__most_p, ne_WorkQueue_add_later__waiting_p, ne_WorkQueue_add_later__working_p, ne_WorkQueue_add_later__ticks_p, ne_WorkQueue_add_later__failures_p, ne_WorkQueue_tick__most_p, ne_WorkQueue_tick__waiting_p, ne_WorkQueue_tick__working_p, ne_WorkQueue_tick__ticks_p, ne_WorkQueue_tick__failures_p, ne_WorkQueue_take__most_p, ne_WorkQueue_take__waiting_p, ne_WorkQueue_take__working_p, ne_WorkQueue_take__ticks_p, ne_WorkQueue_take__failures_p, ne_WorkQueue_finish__most_p, ne_WorkQueue_finish__waiting_p, ne_WorkQueue_finish__working_p, ne_WorkQueue_finish__ticks_p, ne_WorkQueue_finish__failures_p, ne_WorkQueue_fail__most_p, ne_WorkQueue_fail__waiting_p, ne_WorkQueue_fail__working_p, ne_WorkQueue_fail__ticks_p, ne_WorkQueue_fail__failures_p, ne_WorkQueue__leave__most_p, ne_WorkQueue__leave__waiting_p, ne_WorkQueue__leave__working_p, ne_WorkQueue__leave__ticks_p, ne_WorkQueue__leave__failures_p, ne_WorkQueue__delay__most_p, ne_WorkQueue__delay__waiting_p, ne_WorkQueue__delay__working_p, ne_WorkQueue__delay__ticks_p, ne_WorkQueue__delay__failures_p, ne_WorkQueue_waiting__most_p, ne_WorkQueue_waiting__waiting_p, ne_WorkQueue_waiting__working_p, ne_WorkQueue_waiting__ticks_p, ne_WorkQueue_waiting__failures_p, ne_WorkQueue_in_work__most_p, ne_WorkQueue_in_work__waiting_p, ne_WorkQueue_in_work__working_p, ne_WorkQueue_in_work__ticks_p, ne_WorkQueue_in_work__failures_p, ne_WorkQueue_delayed__most_p, ne_WorkQueue_delayed__waiting_p, ne_WorkQueue_delayed__working_p, ne_WorkQueue_delayed__ticks_p, ne_WorkQueue_delayed__failures_p, ne_WorkQueue_failures__most_p, ne_WorkQueue_failures__waiting_p, ne_WorkQueue_failures__working_p, ne_WorkQueue_failures__ticks_p, ne_WorkQueue_failures__failures_p]
theorem fl_WorkQueue_no__delay {v0 v1 v2 v3 v4 : V} : (fl_WorkQueue v0 v1 v2 v3 v4).lookup ("_delay" : Str) = none := by unfold fl_WorkQueue; simp [List.lookup, ne_WorkQueue__most__waiting, ne_WorkQueue__most__working, ne_WorkQueue__most__ticks, ne_WorkQueue__most__failures, ne_WorkQueue__waiting__most, ne_WorkQueue__waiting__working, ne_WorkQueue__waiting__ticks, ne_WorkQueue__waiting__failures, ne_WorkQueue__working__most, ne_WorkQueue__working__waiting, ne_WorkQueue__working__ticks, ne_WorkQueue__working__failures, ne_WorkQueue__ticks__most, ne_WorkQueue__ticks__waiting, ne_WorkQueue__ticks__working, ne_WorkQueue__ticks__failures, ne_WorkQueue__failures__most, ne_WorkQueue__failures__waiting, ne_WorkQueue__failures__working, ne_WorkQueue__failures__ticks, ne_WorkQueue_add__most, ne_WorkQueue_add__waiting, ne_WorkQueue_add__working, ne_WorkQueue_add__ticks, ne_WorkQueue_add__failures, ne_WorkQueue_add_later__most, ne_WorkQueue_add_later__waiting, ne_WorkQueue_add_later__working, ne_WorkQueue_add_later__ticks, ne_WorkQueue_add_later__failures, ne_WorkQueue_tick__most, ne_WorkQueue_tick__waiting, ne_WorkQueue_tick__working, ne_WorkQueue_tick__ticks, ne_WorkQueue_tick__failures, ne_WorkQueue_take__most, ne_WorkQueue_take__waiting, ne_WorkQueue_take__working, ne_WorkQueue_take__ticks, ne_WorkQueue_take__failures, ne_WorkQueue_finish__most, ne_WorkQueue_finish__waiting, ne_WorkQueue_finish__working, ne_WorkQueue_finish__ticks, ne_WorkQueue_finish__failures, ne_WorkQueue_fail__most, ne_WorkQueue_fail__waiting, ne_WorkQueue_fail__working, ne_WorkQueue_fail__ticks, ne_WorkQueue_fail__failures, ne_WorkQueue__leave__most, ne_WorkQueue__leave__waiting, ne_WorkQueue__leave__working, ne_WorkQueue__leave__ticks, ne_WorkQueue__leave__failures, ne_WorkQueue__delay__most, ne_WorkQueue__delay__waiting, ne_WorkQueue__delay__working, ne_WorkQueue__delay__ticks, ne_WorkQueue__delay__failures, ne_WorkQueue_waiting__most, ne_WorkQueue_waiting__waiting, ne_WorkQueue_waiting__working, ne_WorkQueue_waiting__ticks, ne_WorkQueue_waiting__failures, ne_WorkQueue_in_work__most, ne_WorkQueue_in_work__waiting, ne_WorkQueue_in_work__working, ne_WorkQueue_in_work__ticks, ne_WorkQueue_in_work__failures, ne_WorkQueue_delayed__most, ne_WorkQueue_delayed__waiting, ne_WorkQueue_delayed__working, ne_WorkQueue_delayed__ticks, ne_WorkQueue_delayed__failures, ne_WorkQueue_failures__most, ne_WorkQueue_failures__waiting, ne_WorkQueue_failures__working, ne_WorkQueue_failures__ticks, ne_WorkQueue_failures__failures, ne_WorkQueue__most__waiting_p, ne_WorkQueue__most__working_p, ne_WorkQueue__most__ticks_p, ne_WorkQueue__most__failures_p, ne_WorkQueue__waiting__most_p, ne_WorkQueue__waiting__working_p, ne_WorkQueue__waiting__ticks_p, ne_WorkQueue__waiting__failures_p, ne_WorkQueue__working__most_p, ne_WorkQueue__working__waiting_p, ne_WorkQueue__working__ticks_p, ne_WorkQueue__working__failures_p, ne_WorkQueue__ticks__most_p, ne_WorkQueue__ticks__waiting_p, ne_WorkQueue__ticks__working_p, ne_WorkQueue__ticks__failures_p, ne_WorkQueue__failures__most_p, ne_WorkQueue__failures__waiting_p, ne_WorkQueue__failures__working_p, ne_WorkQueue__failures__ticks_p, ne_WorkQueue_add__most_p, ne_WorkQueue_add__waiting_p, ne_WorkQueue_add__working_p, ne_WorkQueue_add__ticks_p, ne_WorkQueue_add__failures_p, ne_WorkQueue_add_later__most_p, ne_WorkQueue_add_later__waiting_p, ne_WorkQueue_add_later__working_p, ne_WorkQueue_add_later__ticks_p, ne_WorkQueue_add_later__failures_p, ne_WorkQueue_tick__most_p, ne_WorkQueue_tick__waiting_p, ne_WorkQueue_tick__working_p, ne_WorkQueue_tick__ticks_p, ne_WorkQueue_tick__failures_p, ne_WorkQueue_take__most_p, ne_WorkQueue_take__waiting_p, ne_WorkQueue_take__working_p, ne_WorkQueue_take__ticks_p, ne_WorkQueue_take__failures_p, ne_WorkQueue_finish__most_p, ne_WorkQueue_finish__waiting_p, ne_WorkQueue_finish__working_p, ne_WorkQueue_finish__ticks_p, ne_WorkQueue_finish__failures_p, ne_WorkQueue_fail__most_p, ne_WorkQueue_fail__waiting_p, ne_WorkQueue_fail__working_p, ne_WorkQueue_fail__ticks_p, ne_WorkQueue_fail__failures_p, ne_WorkQueue__leave__most_p, ne_WorkQueue__leave__waiting_p, ne_WorkQueue__leave__working_p, ne_WorkQueue__leave__ticks_p, ne_WorkQueue__leave__failures_p, ne_WorkQueue__delay__most_p, ne_WorkQueue__delay__waiting_p, ne_WorkQueue__delay__working_p, ne_WorkQueue__delay__ticks_p, ne_WorkQueue__delay__failures_p, ne_WorkQueue_waiting__most_p, ne_WorkQueue_waiting__waiting_p, ne_WorkQueue_waiting__working_p, ne_WorkQueue_waiting__ticks_p, ne_WorkQueue_waiting__failures_p, ne_WorkQueue_in_work__most_p, ne_WorkQueue_in_work__waiting_p, ne_WorkQueue_in_work__working_p, ne_WorkQueue_in_work__ticks_p, ne_WorkQueue_in_work__failures_p, ne_WorkQueue_delayed__most_p, ne_WorkQueue_delayed__waiting_p, ne_WorkQueue_delayed__working_p, ne_WorkQueue_delayed__ticks_p, ne_WorkQueue_delayed__failures_p, ne_WorkQueue_failures__most_p, ne_WorkQueue_failures__waiting_p, ne_WorkQueue_failures__working_p, ne_WorkQueue_failures__ticks_p, ne_WorkQueue_failures__failures_p]
theorem fl_WorkQueue_no_waiting {v0 v1 v2 v3 v4 : V} : (fl_WorkQueue v0 v1 v2 v3 v4).lookup ("waiting" : Str) = none := by unfold fl_WorkQueue; simp [List.lookup, ne_WorkQueue__most__waiting, ne_WorkQueue__most__working, ne_WorkQueue__most__ticks, ne_WorkQueue__most__failures, ne_WorkQueue__waiting__most, ne_WorkQueue__waiting__working, ne_WorkQueue__waiting__ticks, ne_WorkQueue__waiting__failures, ne_WorkQueue__working__most, ne_WorkQueue__working__waiting, ne_WorkQueue__working__ticks, ne_WorkQueue__working__failures, ne_WorkQueue__ticks__most, ne_WorkQueue__ticks__waiting, ne_WorkQueue__ticks__working, ne_WorkQueue__ticks__failures, ne_WorkQueue__failures__most, ne_WorkQueue__failures__waiting, ne_WorkQueue__failures__working, ne_WorkQueue__failures__ticks, ne_WorkQueue_add__most, ne_WorkQueue_add__waiting, ne_WorkQueue_add__working, ne_WorkQueue_add__ticks, ne_WorkQueue_add__failures, ne_WorkQueue_add_later__most, ne_WorkQueue_add_later__waiting, ne_WorkQueue_add_later__working, ne_WorkQueue_add_later__ticks, ne_WorkQueue_add_later__failures, ne_WorkQueue_tick__most, ne_WorkQueue_tick__waiting, ne_WorkQueue_tick__working, ne_WorkQueue_tick__ticks, ne_WorkQueue_tick__failures, ne_WorkQueue_take__most, ne_WorkQueue_take__waiting, ne_WorkQueue_take__working, ne_WorkQueue_take__ticks, ne_WorkQueue_take__failures, ne_WorkQueue_finish__most, ne_WorkQueue_finish__waiting, ne_WorkQueue_finish__working, ne_WorkQueue_finish__ticks, ne_WorkQueue_finish__failures, ne_WorkQueue_fail__most, ne_WorkQueue_fail__waiting, ne_WorkQueue_fail__working, ne_WorkQueue_fail__ticks, ne_WorkQueue_fail__failures, ne_WorkQueue__leave__most, ne_WorkQueue__leave__waiting, ne_WorkQueue__leave__working, ne_WorkQueue__leave__ticks, ne_WorkQueue__leave__failures, ne_WorkQueue__delay__most, ne_WorkQueue__delay__waiting, ne_WorkQueue__delay__working, ne_WorkQueue__delay__ticks, ne_WorkQueue__delay__failures, ne_WorkQueue_waiting__most, ne_WorkQueue_waiting__waiting, ne_WorkQueue_waiting__working, ne_WorkQueue_waiting__ticks, ne_WorkQueue_waiting__failures, ne_WorkQueue_in_work__most, ne_WorkQueue_in_work__waiting, ne_WorkQueue_in_work__working, ne_WorkQueue_in_work__ticks, ne_WorkQueue_in_work__failures, ne_WorkQueue_delayed__most, ne_WorkQueue_delayed__waiting, ne_WorkQueue_delayed__working, ne_WorkQueue_delayed__ticks, ne_WorkQueue_delayed__failures, ne_WorkQueue_failures__most, ne_WorkQueue_failures__waiting, ne_WorkQueue_failures__working, ne_WorkQueue_failures__ticks, ne_WorkQueue_failures__failures, ne_WorkQueue__most__waiting_p, ne_WorkQueue__most__working_p, ne_WorkQueue__most__ticks_p, ne_WorkQueue__most__failures_p, ne_WorkQueue__waiting__most_p, ne_WorkQueue__waiting__working_p, ne_WorkQueue__waiting__ticks_p, ne_WorkQueue__waiting__failures_p, ne_WorkQueue__working__most_p, ne_WorkQueue__working__waiting_p, ne_WorkQueue__working__ticks_p, ne_WorkQueue__working__failures_p, ne_WorkQueue__ticks__most_p, ne_WorkQueue__ticks__waiting_p, ne_WorkQueue__ticks__working_p, ne_WorkQueue__ticks__failures_p, ne_WorkQueue__failures__most_p, ne_WorkQueue__failures__waiting_p, ne_WorkQueue__failures__working_p, ne_WorkQueue__failures__ticks_p, ne_WorkQueue_add__most_p, ne_WorkQueue_add__waiting_p, ne_WorkQueue_add__working_p, ne_WorkQueue_add__ticks_p, ne_WorkQueue_add__failures_p, ne_WorkQueue_add_later__most_p, ne_WorkQueue_add_later__waiting_p, ne_WorkQueue_add_later__working_p, ne_WorkQueue_add_later__ticks_p, ne_WorkQueue_add_later__failures_p, ne_WorkQueue_tick__most_p, ne_WorkQueue_tick__waiting_p, ne_WorkQueue_tick__working_p, ne_WorkQueue_tick__ticks_p, ne_WorkQueue_tick__failures_p, ne_WorkQueue_take__most_p, ne_WorkQueue_take__waiting_p, ne_WorkQueue_take__working_p, ne_WorkQueue_take__ticks_p, ne_WorkQueue_take__failures_p, ne_WorkQueue_finish__most_p, ne_WorkQueue_finish__waiting_p, ne_WorkQueue_finish__working_p, ne_WorkQueue_finish__ticks_p, ne_WorkQueue_finish__failures_p, ne_WorkQueue_fail__most_p, ne_WorkQueue_fail__waiting_p, ne_WorkQueue_fail__working_p, ne_WorkQueue_fail__ticks_p, ne_WorkQueue_fail__failures_p, ne_WorkQueue__leave__most_p, ne_WorkQueue__leave__waiting_p, ne_WorkQueue__leave__working_p, ne_WorkQueue__leave__ticks_p, ne_WorkQueue__leave__failures_p, ne_WorkQueue__delay__most_p, ne_WorkQueue__delay__waiting_p, ne_WorkQueue__delay__working_p, ne_WorkQueue__delay__ticks_p, ne_WorkQueue__delay__failures_p, ne_WorkQueue_waiting__most_p, ne_WorkQueue_waiting__waiting_p, ne_WorkQueue_waiting__working_p, ne_WorkQueue_waiting__ticks_p, ne_WorkQueue_waiting__failures_p, ne_WorkQueue_in_work__most_p, ne_WorkQueue_in_work__waiting_p, ne_WorkQueue_in_work__working_p, ne_WorkQueue_in_work__ticks_p, ne_WorkQueue_in_work__failures_p, ne_WorkQueue_delayed__most_p, ne_WorkQueue_delayed__waiting_p, ne_WorkQueue_delayed__working_p, ne_WorkQueue_delayed__ticks_p, ne_WorkQueue_delayed__failures_p, ne_WorkQueue_failures__most_p, ne_WorkQueue_failures__waiting_p, ne_WorkQueue_failures__working_p, ne_WorkQueue_failures__ticks_p, ne_WorkQueue_failures__failures_p]
theorem fl_WorkQueue_no_in_work {v0 v1 v2 v3 v4 : V} : (fl_WorkQueue v0 v1 v2 v3 v4).lookup ("in_work" : Str) = none := by unfold fl_WorkQueue; simp [List.lookup, ne_WorkQueue__most__waiting, ne_WorkQueue__most__working, ne_WorkQueue__most__ticks, ne_WorkQueue__most__failures, ne_WorkQueue__waiting__most, ne_WorkQueue__waiting__working, ne_WorkQueue__waiting__ticks, ne_WorkQueue__waiting__failures, ne_WorkQueue__working__most, ne_WorkQueue__working__waiting, ne_WorkQueue__working__ticks, ne_WorkQueue__working__failures, ne_WorkQueue__ticks__most, ne_WorkQueue__ticks__waiting, ne_WorkQueue__ticks__working, ne_WorkQueue__ticks__failures, ne_WorkQueue__failures__most, ne_WorkQueue__failures__waiting, ne_WorkQueue__failures__working, ne_WorkQueue__failures__ticks, ne_WorkQueue_add__most, ne_WorkQueue_add__waiting, ne_WorkQueue_add__working, ne_WorkQueue_add__ticks, ne_WorkQueue_add__failures, ne_WorkQueue_add_later__most, ne_WorkQueue_add_later__waiting, ne_WorkQueue_add_later__working, ne_WorkQueue_add_later__ticks, ne_WorkQueue_add_later__failures, ne_WorkQueue_tick__most, ne_WorkQueue_tick__waiting, ne_WorkQueue_tick__working, ne_WorkQueue_tick__ticks, ne_WorkQueue_tick__failures, ne_WorkQueue_take__most, ne_WorkQueue_take__waiting, ne_WorkQueue_take__working, ne_WorkQueue_take__ticks, ne_WorkQueue_take__failures, ne_WorkQueue_finish__most, ne_WorkQueue_finish__waiting, ne_WorkQueue_finish__working, ne_WorkQueue_finish__ticks, ne_WorkQueue_finish__failures, ne_WorkQueue_fail__most, ne_WorkQueue_fail__waiting, ne_WorkQueue_fail__working, ne_WorkQueue_fail__ticks, ne_WorkQueue_fail__failures, ne_WorkQueue__leave__most, ne_WorkQueue__leave__waiting, ne_WorkQueue__leave__working, ne_WorkQueue__leave__ticks, ne_WorkQueue__leave__failures, ne_WorkQueue__delay__most, ne_WorkQueue__delay__waiting, ne_WorkQueue__delay__working, ne_WorkQueue__delay__ticks, ne_WorkQueue__delay__failures, ne_WorkQueue_waiting__most, ne_WorkQueue_waiting__waiting, ne_WorkQueue_waiting__working, ne_WorkQueue_waiting__ticks, ne_WorkQueue_waiting__failures, ne_WorkQueue_in_work__most, ne_WorkQueue_in_work__waiting, ne_WorkQueue_in_work__working, ne_WorkQueue_in_work__ticks, ne_WorkQueue_in_work__failures, ne_WorkQueue_delayed__most, ne_WorkQueue_delayed__waiting, ne_WorkQueue_delayed__working, ne_WorkQueue_delayed__ticks, ne_WorkQueue_delayed__failures, ne_WorkQueue_failures__most, ne_WorkQueue_failures__waiting, ne_WorkQueue_failures__working, ne_WorkQueue_failures__ticks, ne_WorkQueue_failures__failures, ne_WorkQueue__most__waiting_p, ne_WorkQueue__most__working_p, ne_WorkQueue__most__ticks_p, ne_WorkQueue__most__failures_p, ne_WorkQueue__waiting__most_p, ne_WorkQueue__waiting__working_p, ne_WorkQueue__waiting__ticks_p, ne_WorkQueue__waiting__failures_p, ne_WorkQueue__working__most_p, ne_WorkQueue__working__waiting_p, ne_WorkQueue__working__ticks_p, ne_WorkQueue__working__failures_p, ne_WorkQueue__ticks__most_p, ne_WorkQueue__ticks__waiting_p, ne_WorkQueue__ticks__working_p, ne_WorkQueue__ticks__failures_p, ne_WorkQueue__failures__most_p, ne_WorkQueue__failures__waiting_p, ne_WorkQueue__failures__working_p, ne_WorkQueue__failures__ticks_p, ne_WorkQueue_add__most_p, ne_WorkQueue_add__waiting_p, ne_WorkQueue_add__working_p, ne_WorkQueue_add__ticks_p, ne_WorkQueue_add__failures_p, ne_WorkQueue_add_later__most_p, ne_WorkQueue_add_later__waiting_p, ne_WorkQueue_add_later__working_p, ne_WorkQueue_add_later__ticks_p, ne_WorkQueue_add_later__failures_p, ne_WorkQueue_tick__most_p, ne_WorkQueue_tick__waiting_p, ne_WorkQueue_tick__working_p, ne_WorkQueue_tick__ticks_p, ne_WorkQueue_tick__failures_p, ne_WorkQueue_take__most_p, ne_WorkQueue_take__waiting_p, ne_WorkQueue_take__working_p, ne_WorkQueue_take__ticks_p, ne_WorkQueue_take__failures_p, ne_WorkQueue_finish__most_p, ne_WorkQueue_finish__waiting_p, ne_WorkQueue_finish__working_p, ne_WorkQueue_finish__ticks_p, ne_WorkQueue_finish__failures_p, ne_WorkQueue_fail__most_p, ne_WorkQueue_fail__waiting_p, ne_WorkQueue_fail__working_p, ne_WorkQueue_fail__ticks_p, ne_WorkQueue_fail__failures_p, ne_WorkQueue__leave__most_p, ne_WorkQueue__leave__waiting_p, ne_WorkQueue__leave__working_p, ne_WorkQueue__leave__ticks_p, ne_WorkQueue__leave__failures_p, ne_WorkQueue__delay__most_p, ne_WorkQueue__delay__waiting_p, ne_WorkQueue__delay__working_p, ne_WorkQueue__delay__ticks_p, ne_WorkQueue__delay__failures_p, ne_WorkQueue_waiting__most_p, ne_WorkQueue_waiting__waiting_p, ne_WorkQueue_waiting__working_p, ne_WorkQueue_waiting__ticks_p, ne_WorkQueue_waiting__failures_p, ne_WorkQueue_in_work__most_p, ne_WorkQueue_in_work__waiting_p, ne_WorkQueue_in_work__working_p, ne_WorkQueue_in_work__ticks_p, ne_WorkQueue_in_work__failures_p, ne_WorkQueue_delayed__most_p, ne_WorkQueue_delayed__waiting_p, ne_WorkQueue_delayed__working_p, ne_WorkQueue_delayed__ticks_p, ne_WorkQueue_delayed__failures_p, ne_WorkQueue_failures__most_p, ne_WorkQueue_failures__waiting_p, ne_WorkQueue_failures__working_p, ne_WorkQueue_failures__ticks_p, ne_WorkQueue_failures__failures_p]
theorem fl_WorkQueue_no_delayed {v0 v1 v2 v3 v4 : V} : (fl_WorkQueue v0 v1 v2 v3 v4).lookup ("delayed" : Str) = none := by unfold fl_WorkQueue; simp [List.lookup, ne_WorkQueue__most__waiting, ne_WorkQueue__most__working, ne_WorkQueue__most__ticks, ne_WorkQueue__most__failures, ne_WorkQueue__waiting__most, ne_WorkQueue__waiting__working, ne_WorkQueue__waiting__ticks, ne_WorkQueue__waiting__failures, ne_WorkQueue__working__most, ne_WorkQueue__working__waiting, ne_WorkQueue__working__ticks, ne_WorkQueue__working__failures, ne_WorkQueue__ticks__most, ne_WorkQueue__ticks__waiting, ne_WorkQueue__ticks__working, ne_WorkQueue__ticks__failures, ne_WorkQueue__failures__most, ne_WorkQueue__failures__waiting, ne_WorkQueue__failures__working, ne_WorkQueue__failures__ticks, ne_WorkQueue_add__most, ne_WorkQueue_add__waiting, ne_WorkQueue_add__working, ne_WorkQueue_add__ticks, ne_WorkQueue_add__failures, ne_WorkQueue_add_later__most, ne_WorkQueue_add_later__waiting, ne_WorkQueue_add_later__working, ne_WorkQueue_add_later__ticks, ne_WorkQueue_add_later__failures, ne_WorkQueue_tick__most, ne_WorkQueue_tick__waiting, ne_WorkQueue_tick__working, ne_WorkQueue_tick__ticks, ne_WorkQueue_tick__failures, ne_WorkQueue_take__most, ne_WorkQueue_take__waiting, ne_WorkQueue_take__working, ne_WorkQueue_take__ticks, ne_WorkQueue_take__failures, ne_WorkQueue_finish__most, ne_WorkQueue_finish__waiting, ne_WorkQueue_finish__working, ne_WorkQueue_finish__ticks, ne_WorkQueue_finish__failures, ne_WorkQueue_fail__most, ne_WorkQueue_fail__waiting, ne_WorkQueue_fail__working, ne_WorkQueue_fail__ticks, ne_WorkQueue_fail__failures, ne_WorkQueue__leave__most, ne_WorkQueue__leave__waiting, ne_WorkQueue__leave__working, ne_WorkQueue__leave__ticks, ne_WorkQueue__leave__failures, ne_WorkQueue__delay__most, ne_WorkQueue__delay__waiting, ne_WorkQueue__delay__working, ne_WorkQueue__delay__ticks, ne_WorkQueue__delay__failures, ne_WorkQueue_waiting__most, ne_WorkQueue_waiting__waiting, ne_WorkQueue_waiting__working, ne_WorkQueue_waiting__ticks, ne_WorkQueue_waiting__failures, ne_WorkQueue_in_work__most, ne_WorkQueue_in_work__waiting, ne_WorkQueue_in_work__working, ne_WorkQueue_in_work__ticks, ne_WorkQueue_in_work__failures, ne_WorkQueue_delayed__most, ne_WorkQueue_delayed__waiting, ne_WorkQueue_delayed__working, ne_WorkQueue_delayed__ticks, ne_WorkQueue_delayed__failures, ne_WorkQueue_failures__most, ne_WorkQueue_failures__waiting, ne_WorkQueue_failures__working, ne_WorkQueue_failures__ticks, ne_WorkQueue_failures__failures, ne_WorkQueue__most__waiting_p, ne_WorkQueue__most__working_p, ne_WorkQueue__most__ticks_p, ne_WorkQueue__most__failures_p, ne_WorkQueue__waiting__most_p, ne_WorkQueue__waiting__working_p, ne_WorkQueue__waiting__ticks_p, ne_WorkQueue__waiting__failures_p, ne_WorkQueue__working__most_p, ne_WorkQueue__working__waiting_p, ne_WorkQueue__working__ticks_p, ne_WorkQueue__working__failures_p, ne_WorkQueue__ticks__most_p, ne_WorkQueue__ticks__waiting_p, ne_WorkQueue__ticks__working_p, ne_WorkQueue__ticks__failures_p, ne_WorkQueue__failures__most_p, ne_WorkQueue__failures__waiting_p, ne_WorkQueue__failures__working_p, ne_WorkQueue__failures__ticks_p, ne_WorkQueue_add__most_p, ne_WorkQueue_add__waiting_p, ne_WorkQueue_add__working_p, ne_WorkQueue_add__ticks_p, ne_WorkQueue_add__failures_p, ne_WorkQueue_add_later__most_p, ne_WorkQueue_add_later__waiting_p, ne_WorkQueue_add_later__working_p, ne_WorkQueue_add_later__ticks_p, ne_WorkQueue_add_later__failures_p, ne_WorkQueue_tick__most_p, ne_WorkQueue_tick__waiting_p, ne_WorkQueue_tick__working_p, ne_WorkQueue_tick__ticks_p, ne_WorkQueue_tick__failures_p, ne_WorkQueue_take__most_p, ne_WorkQueue_take__waiting_p, ne_WorkQueue_take__working_p, ne_WorkQueue_take__ticks_p, ne_WorkQueue_take__failures_p, ne_WorkQueue_finish__most_p, ne_WorkQueue_finish__waiting_p, ne_WorkQueue_finish__working_p, ne_WorkQueue_finish__ticks_p, ne_WorkQueue_finish__failures_p, ne_WorkQueue_fail__most_p, ne_WorkQueue_fail__waiting_p, ne_WorkQueue_fail__working_p, ne_WorkQueue_fail__ticks_p, ne_WorkQueue_fail__failures_p, ne_WorkQueue__leave__most_p, ne_WorkQueue__leave__waiting_p, ne_WorkQueue__leave__working_p, ne_WorkQueue__leave__ticks_p, ne_WorkQueue__leave__failures_p, ne_WorkQueue__delay__most_p, ne_WorkQueue__delay__waiting_p, ne_WorkQueue__delay__working_p, ne_WorkQueue__delay__ticks_p, ne_WorkQueue__delay__failures_p, ne_WorkQueue_waiting__most_p, ne_WorkQueue_waiting__waiting_p, ne_WorkQueue_waiting__working_p, ne_WorkQueue_waiting__ticks_p, ne_WorkQueue_waiting__failures_p, ne_WorkQueue_in_work__most_p, ne_WorkQueue_in_work__waiting_p, ne_WorkQueue_in_work__working_p, ne_WorkQueue_in_work__ticks_p, ne_WorkQueue_in_work__failures_p, ne_WorkQueue_delayed__most_p, ne_WorkQueue_delayed__waiting_p, ne_WorkQueue_delayed__working_p, ne_WorkQueue_delayed__ticks_p, ne_WorkQueue_delayed__failures_p, ne_WorkQueue_failures__most_p, ne_WorkQueue_failures__waiting_p, ne_WorkQueue_failures__working_p, ne_WorkQueue_failures__ticks_p, ne_WorkQueue_failures__failures_p]
theorem fl_WorkQueue_no_failures {v0 v1 v2 v3 v4 : V} : (fl_WorkQueue v0 v1 v2 v3 v4).lookup ("failures" : Str) = none := by unfold fl_WorkQueue; simp [List.lookup, ne_WorkQueue__most__waiting, ne_WorkQueue__most__working, ne_WorkQueue__most__ticks, ne_WorkQueue__most__failures, ne_WorkQueue__waiting__most, ne_WorkQueue__waiting__working, ne_WorkQueue__waiting__ticks, ne_WorkQueue__waiting__failures, ne_WorkQueue__working__most, ne_WorkQueue__working__waiting, ne_WorkQueue__working__ticks, ne_WorkQueue__working__failures, ne_WorkQueue__ticks__most, ne_WorkQueue__ticks__waiting, ne_WorkQueue__ticks__working, ne_WorkQueue__ticks__failures, ne_WorkQueue__failures__most, ne_WorkQueue__failures__waiting, ne_WorkQueue__failures__working, ne_WorkQueue__failures__ticks, ne_WorkQueue_add__most, ne_WorkQueue_add__waiting, ne_WorkQueue_add__working, ne_WorkQueue_add__ticks, ne_WorkQueue_add__failures, ne_WorkQueue_add_later__most, ne_WorkQueue_add_later__waiting, ne_WorkQueue_add_later__working, ne_WorkQueue_add_later__ticks, ne_WorkQueue_add_later__failures, ne_WorkQueue_tick__most, ne_WorkQueue_tick__waiting, ne_WorkQueue_tick__working, ne_WorkQueue_tick__ticks, ne_WorkQueue_tick__failures, ne_WorkQueue_take__most, ne_WorkQueue_take__waiting, ne_WorkQueue_take__working, ne_WorkQueue_take__ticks, ne_WorkQueue_take__failures, ne_WorkQueue_finish__most, ne_WorkQueue_finish__waiting, ne_WorkQueue_finish__working, ne_WorkQueue_finish__ticks, ne_WorkQueue_finish__failures, ne_WorkQueue_fail__most, ne_WorkQueue_fail__waiting, ne_WorkQueue_fail__working, ne_WorkQueue_fail__ticks, ne_WorkQueue_fail__failures, ne_WorkQueue__leave__most, ne_WorkQueue__leave__waiting, ne_WorkQueue__leave__working, ne_WorkQueue__leave__ticks, ne_WorkQueue__leave__failures, ne_WorkQueue__delay__most, ne_WorkQueue__delay__waiting, ne_WorkQueue__delay__working, ne_WorkQueue__delay__ticks, ne_WorkQueue__delay__failures, ne_WorkQueue_waiting__most, ne_WorkQueue_waiting__waiting, ne_WorkQueue_waiting__working, ne_WorkQueue_waiting__ticks, ne_WorkQueue_waiting__failures, ne_WorkQueue_in_work__most, ne_WorkQueue_in_work__waiting, ne_WorkQueue_in_work__working, ne_WorkQueue_in_work__ticks, ne_WorkQueue_in_work__failures, ne_WorkQueue_delayed__most, ne_WorkQueue_delayed__waiting, ne_WorkQueue_delayed__working, ne_WorkQueue_delayed__ticks, ne_WorkQueue_delayed__failures, ne_WorkQueue_failures__most, ne_WorkQueue_failures__waiting, ne_WorkQueue_failures__working, ne_WorkQueue_failures__ticks, ne_WorkQueue_failures__failures, ne_WorkQueue__most__waiting_p, ne_WorkQueue__most__working_p, ne_WorkQueue__most__ticks_p, ne_WorkQueue__most__failures_p, ne_WorkQueue__waiting__most_p, ne_WorkQueue__waiting__working_p, ne_WorkQueue__waiting__ticks_p, ne_WorkQueue__waiting__failures_p, ne_WorkQueue__working__most_p, ne_WorkQueue__working__waiting_p, ne_WorkQueue__working__ticks_p, ne_WorkQueue__working__failures_p, ne_WorkQueue__ticks__most_p, ne_WorkQueue__ticks__waiting_p, ne_WorkQueue__ticks__working_p, ne_WorkQueue__ticks__failures_p, ne_WorkQueue__failures__most_p, ne_WorkQueue__failures__waiting_p, ne_WorkQueue__failures__working_p, ne_WorkQueue__failures__ticks_p, ne_WorkQueue_add__most_p, ne_WorkQueue_add__waiting_p, ne_WorkQueue_add__working_p, ne_WorkQueue_add__ticks_p, ne_WorkQueue_add__failures_p, ne_WorkQueue_add_later__most_p, ne_WorkQueue_add_later__waiting_p, ne_WorkQueue_add_later__working_p, ne_WorkQueue_add_later__ticks_p, ne_WorkQueue_add_later__failures_p, ne_WorkQueue_tick__most_p, ne_WorkQueue_tick__waiting_p, ne_WorkQueue_tick__working_p, ne_WorkQueue_tick__ticks_p, ne_WorkQueue_tick__failures_p, ne_WorkQueue_take__most_p, ne_WorkQueue_take__waiting_p, ne_WorkQueue_take__working_p, ne_WorkQueue_take__ticks_p, ne_WorkQueue_take__failures_p, ne_WorkQueue_finish__most_p, ne_WorkQueue_finish__waiting_p, ne_WorkQueue_finish__working_p, ne_WorkQueue_finish__ticks_p, ne_WorkQueue_finish__failures_p, ne_WorkQueue_fail__most_p, ne_WorkQueue_fail__waiting_p, ne_WorkQueue_fail__working_p, ne_WorkQueue_fail__ticks_p, ne_WorkQueue_fail__failures_p, ne_WorkQueue__leave__most_p, ne_WorkQueue__leave__waiting_p, ne_WorkQueue__leave__working_p, ne_WorkQueue__leave__ticks_p, ne_WorkQueue__leave__failures_p, ne_WorkQueue__delay__most_p, ne_WorkQueue__delay__waiting_p, ne_WorkQueue__delay__working_p, ne_WorkQueue__delay__ticks_p, ne_WorkQueue__delay__failures_p, ne_WorkQueue_waiting__most_p, ne_WorkQueue_waiting__waiting_p, ne_WorkQueue_waiting__working_p, ne_WorkQueue_waiting__ticks_p, ne_WorkQueue_waiting__failures_p, ne_WorkQueue_in_work__most_p, ne_WorkQueue_in_work__waiting_p, ne_WorkQueue_in_work__working_p, ne_WorkQueue_in_work__ticks_p, ne_WorkQueue_in_work__failures_p, ne_WorkQueue_delayed__most_p, ne_WorkQueue_delayed__waiting_p, ne_WorkQueue_delayed__working_p, ne_WorkQueue_delayed__ticks_p, ne_WorkQueue_delayed__failures_p, ne_WorkQueue_failures__most_p, ne_WorkQueue_failures__waiting_p, ne_WorkQueue_failures__working_p, ne_WorkQueue_failures__ticks_p, ne_WorkQueue_failures__failures_p]
theorem fl_WorkQueue_new {v0 v1 v2 v3 v4 : V} : putF ("_failures" : Str) v4 (putF ("_ticks" : Str) v3 (putF ("_working" : Str) v2 (putF ("_waiting" : Str) v1 (putF ("_most" : Str) v0 ([]))))) = fl_WorkQueue v0 v1 v2 v3 v4 := by unfold fl_WorkQueue; simp [putF, ne_WorkQueue__most__waiting, ne_WorkQueue__most__working, ne_WorkQueue__most__ticks, ne_WorkQueue__most__failures, ne_WorkQueue__waiting__most, ne_WorkQueue__waiting__working, ne_WorkQueue__waiting__ticks, ne_WorkQueue__waiting__failures, ne_WorkQueue__working__most, ne_WorkQueue__working__waiting, ne_WorkQueue__working__ticks, ne_WorkQueue__working__failures, ne_WorkQueue__ticks__most, ne_WorkQueue__ticks__waiting, ne_WorkQueue__ticks__working, ne_WorkQueue__ticks__failures, ne_WorkQueue__failures__most, ne_WorkQueue__failures__waiting, ne_WorkQueue__failures__working, ne_WorkQueue__failures__ticks, ne_WorkQueue_add__most, ne_WorkQueue_add__waiting, ne_WorkQueue_add__working, ne_WorkQueue_add__ticks, ne_WorkQueue_add__failures, ne_WorkQueue_add_later__most, ne_WorkQueue_add_later__waiting, ne_WorkQueue_add_later__working, ne_WorkQueue_add_later__ticks, ne_WorkQueue_add_later__failures, ne_WorkQueue_tick__most, ne_WorkQueue_tick__waiting, ne_WorkQueue_tick__working, ne_WorkQueue_tick__ticks, ne_WorkQueue_tick__failures, ne_WorkQueue_take__most, ne_WorkQueue_take__waiting, ne_WorkQueue_take__working, ne_WorkQueue_take__ticks, ne_WorkQueue_take__failures, ne_WorkQueue_finish__most, ne_WorkQueue_finish__waiting, ne_WorkQueue_finish__working, ne_WorkQueue_finish__ticks, ne_WorkQueue_finish__failures, ne_WorkQueue_fail__most, ne_WorkQueue_fail__waiting, ne_WorkQueue_fail__working, ne_WorkQueue_fail__ticks, ne_WorkQueue_fail__failures, ne_WorkQueue__leave__most, ne_WorkQueue__leave__waiting, ne_WorkQueue__leave__working, ne_WorkQueue__leave__ticks, ne_WorkQueue__leave__failures, ne_WorkQueue__delay__most, ne_WorkQueue__delay__waiting, ne_WorkQueue__delay__working, ne_WorkQueue__delay__ticks, ne_WorkQueue__delay__failures, ne_WorkQueue_waiting__most, ne_WorkQueue_waiting__waiting, ne_WorkQueue_waiting__working, ne_WorkQueue_waiting__ticks, ne_WorkQueue_waiting__failures, ne_WorkQueue_in_work__most, ne_WorkQueue_in_work__waiting, ne_WorkQueue_in_work__working, ne_WorkQueue_in_work__ticks, ne_WorkQueue_in_work__failures, ne_WorkQueue_delayed__most, ne_WorkQueue_delayed__waiting, ne_WorkQueue_delayed__working, ne_WorkQueue_delayed__ticks, ne_WorkQueue_delayed__failures, ne_WorkQueue_failures__most, ne_WorkQueue_failures__waiting, ne_WorkQueue_failures__working, ne_WorkQueue_failures__ticks, ne_WorkQueue_failures__failures, ne_WorkQueue__most__waiting_p, ne_WorkQueue__most__working_p, ne_WorkQueue__most__ticks_p, ne_WorkQueue__most__failures_p, ne_WorkQueue__waiting__most_p, ne_WorkQueue__waiting__working_p, ne_WorkQueue__waiting__ticks_p, ne_WorkQueue__waiting__failures_p, ne_WorkQueue__working__most_p, ne_WorkQueue__working__waiting_p, ne_WorkQueue__working__ticks_p, ne_WorkQueue__working__failures_p, ne_WorkQueue__ticks__most_p, ne_WorkQueue__ticks__waiting_p, ne_WorkQueue__ticks__working_p, ne_WorkQueue__ticks__failures_p, ne_WorkQueue__failures__most_p, ne_WorkQueue__failures__waiting_p, ne_WorkQueue__failures__working_p, ne_WorkQueue__failures__ticks_p, ne_WorkQueue_add__most_p, ne_WorkQueue_add__waiting_p, ne_WorkQueue_add__working_p, ne_WorkQueue_add__ticks_p, ne_WorkQueue_add__failures_p, ne_WorkQueue_add_later__most_p, ne_WorkQueue_add_later__waiting_p, ne_WorkQueue_add_later__working_p, ne_WorkQueue_add_later__ticks_p, ne_WorkQueue_add_later__failures_p, ne_WorkQueue_tick__most_p, ne_WorkQueue_tick__waiting_p, ne_WorkQueue_tick__working_p, ne_WorkQueue_tick__ticks_p, ne_WorkQueue_tick__failures_p, ne_WorkQueue_take__most_p, ne_WorkQueue_take__waiting_p, ne_WorkQueue_take__working_p, ne_WorkQueue_take__ticks_p, ne_WorkQueue_take__failures_p, ne_WorkQueue_finish__most_p, ne_WorkQueue_finish__waiting_p, ne_WorkQueue_finish__working_p, ne_WorkQueue_finish__ticks_p, ne_WorkQueue_finish__failures_p, ne_WorkQueue_fail__most_p, ne_WorkQueue_fail__waiting_p, ne_WorkQueue_fail__working_p, ne_WorkQueue_fail__ticks_p, ne_WorkQueue_fail__failures_p, ne_WorkQueue__leave__most_p, ne_WorkQueue__leave__waiting_p, ne_WorkQueue__leave__working_p, ne_WorkQueue__leave__ticks_p, ne_WorkQueue__leave__failures_p, ne_WorkQueue__delay__most_p, ne_WorkQueue__delay__waiting_p, ne_WorkQueue__delay__working_p, ne_WorkQueue__delay__ticks_p, ne_WorkQueue__delay__failures_p, ne_WorkQueue_waiting__most_p, ne_WorkQueue_waiting__waiting_p, ne_WorkQueue_waiting__working_p, ne_WorkQueue_waiting__ticks_p, ne_WorkQueue_waiting__failures_p, ne_WorkQueue_in_work__most_p, ne_WorkQueue_in_work__waiting_p, ne_WorkQueue_in_work__working_p, ne_WorkQueue_in_work__ticks_p, ne_WorkQueue_in_work__failures_p, ne_WorkQueue_delayed__most_p, ne_WorkQueue_delayed__waiting_p, ne_WorkQueue_delayed__working_p, ne_WorkQueue_delayed__ticks_p, ne_WorkQueue_delayed__failures_p, ne_WorkQueue_failures__most_p, ne_WorkQueue_failures__waiting_p, ne_WorkQueue_failures__working_p, ne_WorkQueue_failures__ticks_p, ne_WorkQueue_failures__failures_p]

/-! dicts whose keys are texts: what they hold, as a function -/
def isTxt (z : Str) : Value → Bool
  | .str y _ => y == z
  | _ => false
theorem vals_get : ∀ {xs : List V} {us : List Value} {i : Nat} {x : V}, Vals xs us → xs[i]? = some x → ∃ u, us[i]? = some u ∧ RelV x u
  | _, _, _, _, .nil, h => by simp at h
  | _, _, 0, _, .cons r _, h => ⟨_, rfl, by cases h; exact r⟩
  | _, _, i + 1, _, .cons _ t, h => by
    obtain ⟨u, e, r⟩ := vals_get (i := i) t (by simpa using h)
    exact ⟨u, by simpa using e, r⟩
theorem vals_drop : ∀ {xs : List V} {us : List Value} (i : Nat), Vals xs us → Vals (xs.eraseIdx i) (us.eraseIdx i)
  | _, _, _, .nil => .nil
  | _, _, 0, .cons _ t => t
  | _, _, i + 1, .cons r t => .cons r (vals_drop i t)
theorem txt_gives {z : Str} {t : Tok} : ∀ {zs : List Str} {us : List Value}, Vals (zs.map V.str) us → ∀ u ∈ us, MeetsSeq.EqGives u (.str z t) (isTxt z u)
  | [], _, .nil, _, h => by cases h
  | y :: zs, _, .cons r tl, u, h => by
    rcases List.mem_cons.mp h with e | e
    · obtain ⟨k, rfl⟩ := r
      subst e
      exact eqGives_str y z k t
    · exact txt_gives tl u e
theorem erase_str : ∀ (l : List Str) (j : Nat), (l.map V.str).eraseIdx j = (l.eraseIdx j).map V.str
  | [], _ => rfl
  | _ :: _, 0 => rfl
  | y :: l, j + 1 => congrArg (V.str y :: ·) (erase_str l j)
def rRemS : V → List V → Hp → VK → Prop := fun x as H Q => ∃ (l : Addr) (zs : List Str) (z : Str), x = .ref l ∧ as = [.str z] ∧ H l = some (.lst (zs.map V.str)) ∧ z ∈ zs ∧ Q .non (upd H l (.lst ((zs.erase z).map V.str)))
theorem mt_removeS {X : Cx} : MtR X "list.remove" rRemS := by
  intro pins s σ H x as v us Q I rx ra ⟨l, zs, z, e1, e2, hH, hz, q⟩
  subst e1; subst e2
  cases rx
  obtain ⟨u, rfl, t, rfl⟩ := ra.one
  obtain ⟨hn, its, n, r, hl, e⟩ := I.lstM hH
  rw [List.length_map] at hl hn
  have hj : zs.idxOf z < zs.length := List.idxOf_lt_length_iff.mpr hz
  have hg : zs[zs.idxOf z]? = some z := by rw [List.getElem?_eq_getElem hj, List.getElem_idxOf]
  have at_ : ∀ (m : Nat) (y : Str) (hm : m < its.toArray.size), zs[m]? = some y → isTxt z its.toArray[m] = (y == z) := fun m y hm hy => by
    obtain ⟨u, hu, k, rfl⟩ := vals_get r (show (zs.map V.str)[m]? = some (.str y) by rw [List.getElem?_map, hy]; rfl)
    obtain ⟨h1, h2⟩ := List.getElem?_eq_some_iff.mp hu
    have h3 : its.toArray[m] = .str y k := by simpa using h2
    rw [h3]
    rfl
  have hjl : zs.idxOf z < its.toArray.size := by rw [List.size_toArray]; omega
  have run := MeetsSeq.list_remove l its.toArray n (.str z t) (isTxt z) (fun y hy => txt_gives r y (by simpa using hy)) (zs.idxOf z) hjl (by rw [at_ _ _ hjl hg]; exact beq_self_eq_true z) (fun m hm hmj => by
    have hmz : m < zs.length := by omega
    rw [at_ m _ hm (List.getElem?_eq_getElem hmz)]
    exact beq_eq_false_iff_ne.mpr fun h2 => by
      have h3 := List.not_of_lt_findIdx (xs := zs) (p := fun y => y == z) (i := m) hmj
      simp [h2] at h3) (by rw [List.size_toArray]; omega)
  refine call_meets PySem.F.slot_list_remove ⟨_, e, rfl⟩ PySem.F.entry_list_remove (PySem.F.args_list_remove_2 _ _) run ⟨e, ?_⟩
  have hE : (zs.map V.str).eraseIdx (zs.idxOf z) = (zs.erase z).map V.str := by
    rw [List.erase_eq_eraseIdx_of_idxOf (i := zs.idxOf z) rfl]
    exact erase_str zs _
  have rr := vals_drop (zs.idxOf z) r
  rw [hE] at rr
  refine ⟨.non, _, I.lset (its' := its.eraseIdx (zs.idxOf z)) (t' := s.toks) hH e ?_ rr ?_, rfl, q⟩
  · exact (List.eraseIdxIfInBounds_toArray ..).trans rfl
  · rw [List.length_map]
    exact Nat.le_trans (List.length_erase_le ..) hn
/-- x *= y, x from -2^64 to 2^64 -/
theorem ip_mul {X : Cx} : PIp X .Mult (fun x y H Q => ∃ i j : Int, x = .int i ∧ y = .int j ∧ (-(2 ^ 64) < i ∧ i < 2 ^ 64) ∧ Q (.int (i * j)) H) := by
  intro pins s σ H x y v u Q I r1 r2 ⟨i, j, e1, e2, ⟨h1, h2⟩, q⟩
  subst e1; subst e2
  obtain ⟨t, rfl⟩ := r1
  obtain ⟨t', rfl⟩ := r2
  exact imul_int ⟨.int _, H, I.tok _, ⟨_, rfl⟩, q⟩ (.of_left (intBits_le_64 h1 h2))
theorem nd_len {α : Type} [DecidableEq α] : ∀ {l U : List α}, l.Nodup → (∀ x ∈ l, x ∈ U) → l.length ≤ U.length
  | [], _, _, _ => Nat.zero_le _
  | a :: l, U, nd, h => by
    have ha := h a List.mem_cons_self
    have n2 := List.nodup_cons.mp nd
    have := nd_len (l := l) (U := U.erase a) n2.2 fun x hx => (List.mem_erase_of_ne (fun z => n2.1 (by rw [← z]; exact hx))).mpr (h x (List.mem_cons_of_mem _ hx))
    rw [List.length_erase_of_mem ha] at this
    have h0 : 0 < U.length := List.length_pos_of_mem ha
    simp only [List.length_cons]
    omega
structure DS {α : Type} (U : List Str) (g : α → V) (kvs : List (Key × V)) (f : Str → Option α) : Prop where
  nd : (kvs.map (·.1)).Nodup
  ks : ∀ kv ∈ kvs, ∃ s ∈ U, kv.1 = Sum.inr s
  vl : ∀ s, valV kvs (Sum.inr s) = (f s).map g
def keyS : Key → Str
  | .inr s => s
  | _ => ""
section
variable {α : Type} {U : List Str} {g : α → V} {kvs : List (Key × V)} {f : Str → Option α}
def setF (f : Str → Option α) (k : Str) (v : α) : Str → Option α := fun s => if s = k then some v else f s
def unsF (f : Str → Option α) (k : Str) : Str → Option α := fun s => if s = k then none else f s
theorem ds_nil : DS U g [] fun _ => none := ⟨List.nodup_nil, (fun _ h => by cases h), fun _ => rfl⟩
theorem keys_map (h : DS U g kvs f) : kvs.map (·.1) = (kvs.map fun kv => keyS kv.1).map Sum.inr := by
  rw [List.map_map]
  apply List.map_congr_left
  intro kv hm
  obtain ⟨s, _, e⟩ := h.ks kv hm
  show kv.1 = Sum.inr (keyS kv.1)
  rw [e]
  rfl
theorem keys_nd (h : DS U g kvs f) : (kvs.map fun kv => keyS kv.1).Nodup := by
  have := h.nd
  rw [keys_map h] at this
  exact List.Pairwise.of_map Sum.inr (fun a b hab z => hab (by rw [z])) this
theorem keys_in (h : DS U g kvs f) : ∀ s ∈ (kvs.map fun kv => keyS kv.1), s ∈ U := fun s hs => by
  obtain ⟨kv, hm, rfl⟩ := List.mem_map.mp hs
  obtain ⟨s, hu, e⟩ := h.ks kv hm
  rw [e]
  exact hu
theorem ds_len (h : DS U g kvs f) : kvs.length ≤ U.length := by
  have := nd_len (keys_nd h) (keys_in h)
  rwa [List.length_map] at this
theorem key_iff (h : DS U g kvs f) (s : Str) : s ∈ (kvs.map fun kv => keyS kv.1) ↔ (f s).isSome = true := by
  have e : (valV kvs (Sum.inr s)).isSome = (f s).isSome := by rw [h.vl]; cases f s <;> rfl
  rw [← e, ← valV_any]
  constructor
  · intro hs
    obtain ⟨kv, hm, rfl⟩ := List.mem_map.mp hs
    obtain ⟨s, _, e⟩ := h.ks kv hm
    exact List.any_eq_true.mpr ⟨kv, hm, by rw [e]; simp [keyS]⟩
  · intro hs
    obtain ⟨kv, hm, e⟩ := List.any_eq_true.mp hs
    exact List.mem_map.mpr ⟨kv, hm, by rw [of_decide_eq_true e]; rfl⟩
theorem ds_put (h : DS U g kvs f) {k : Str} (hk : k ∈ U) (v : α) : DS U g (putK kvs (Sum.inr k) (g v)) (setF f k v) := by
  refine ⟨?_, ?_, fun s => ?_⟩
  · unfold putK
    split
    · rw [List.map_map]
      have : ((fun x => x.1) ∘ fun kv : Key × V => if kv.1 = Sum.inr k then (kv.1, g v) else kv) = fun x => x.1 := by
        funext kv
        simp only [Function.comp]
        split <;> rfl
      rw [this]
      exact h.nd
    · next hn =>
      rw [List.map_append]
      refine List.nodup_append.mpr ⟨h.nd, by simp, fun x hx y hy z => hn ?_⟩
      simp only [List.map_cons, List.map_nil, List.mem_cons, List.not_mem_nil, or_false] at hy
      obtain ⟨kv, hm, e⟩ := List.mem_map.mp hx
      exact List.any_eq_true.mpr ⟨kv, hm, decide_eq_true (by rw [e, z, hy])⟩
  · intro kv hm
    unfold putK at hm
    split at hm
    · obtain ⟨kv', hm', e⟩ := List.mem_map.mp hm
      obtain ⟨s, hu, e'⟩ := h.ks kv' hm'
      refine ⟨s, hu, ?_⟩
      rw [← e]
      split <;> exact e'
    · rcases List.mem_append.mp hm with hm | hm
      · exact h.ks kv hm
      · rw [List.mem_singleton] at hm
        exact ⟨k, hk, by rw [hm]⟩
  · rw [valV_put]
    unfold setF
    by_cases e : s = k
    · rw [e, if_pos rfl, if_pos rfl]
      rfl
    · rw [if_neg (fun z => e (Sum.inr.inj z)), if_neg e]
      exact h.vl s
theorem val_drop (k j : Key) : ∀ kvs : List (Key × V), valV (dropK kvs k) j = if j = k then none else valV kvs j
  | [] => by simp [dropK, valV_nil]
  | p :: r => by
    have ih := val_drop k j r
    unfold dropK at ih ⊢
    rw [List.filter_cons]
    by_cases hp : p.1 = k
    · rw [if_neg (by simp [hp]), ih]
      split
      · rfl
      · next hj => rw [valV_neg (fun z => hj (by rw [← z, hp]))]
    · rw [if_pos (by simp [hp])]
      by_cases hj : p.1 = j
      · rw [valV_pos hj, valV_pos hj, if_neg (fun z => hp (by rw [hj, z]))]
      · rw [valV_neg hj, valV_neg hj, ih]
theorem ds_drop (h : DS U g kvs f) (k : Str) : DS U g (dropK kvs (Sum.inr k)) (unsF f k) := by
  refine ⟨(List.filter_sublist.map _).nodup h.nd, fun kv hm => h.ks kv (List.mem_filter.mp hm).1, fun s => ?_⟩
  rw [val_drop]
  unfold unsF
  by_cases e : s = k
  · rw [e, if_pos rfl, if_pos rfl]
    rfl
  · rw [if_neg (fun z => e (Sum.inr.inj z)), if_neg e]
    exact h.vl s
end
theorem inV_str (k : Str) : ∀ zs : List Str, inV (.str k) (zs.map V.str) = decide (k ∈ zs)
  | [] => rfl
  | z :: zs => by
    have ih := inV_str k zs
    unfold inV at ih ⊢
    rw [List.map_cons, List.any_cons, ih]
    show ((z == k) || decide (k ∈ zs)) = decide (k ∈ z :: zs)
    by_cases e : k = z
    · subst e
      rw [beq_self_eq_true, Bool.true_or, decide_eq_true List.mem_cons_self]
    · rw [beq_eq_false_iff_ne.mpr (Ne.symm e), Bool.false_or, Bool.eq_iff_iff, decide_eq_true_iff, decide_eq_true_iff, List.mem_cons]
      exact ⟨.inr, fun h => h.resolve_left e⟩
theorem flat_strs : ∀ zs : List Str, (zs.map V.str).all flatV = true
  | [] => rfl
  | _ :: zs => flat_strs zs
/-! the work queue -/
structure WQ where
  w : List Str
  wk : Str → Option Bool
  tk : Str → Option Int
  fl : Str → Option Int
namespace WQ
def add (q : WQ) (k : Str) : WQ := if (q.wk k).isSome = true then { q with wk := setF q.wk k true } else if k ∈ q.w then q else { q with w := q.w ++ [k], tk := unsF q.tk k }
def later (q : WQ) (k : Str) (t : Int) : WQ := if t = 0 then q.add k else if k ∈ q.w then q else { q with tk := setF q.tk k (if (q.tk k).getD t < t then (q.tk k).getD t else t) }
def pass (q : WQ) (ys : List Str) : WQ := ys.foldl (fun q k => ({ q with tk := unsF q.tk k } : WQ).add k) { q with tk := fun s => (q.tk s).map (· - 1) }
def left (q : WQ) (k : Str) : WQ := { q with wk := unsF q.wk k }
def fin (q : WQ) (k : Str) : WQ := if q.wk k = some true then ({ q.left k with fl := unsF q.fl k } : WQ).add k else { q.left k with fl := unsF q.fl k }
end WQ
/-- the delay of the n-th failure -/
def delayZ (most n : Int) : Int := if (2 : Int) ^ (n - 1).toNat < most then 2 ^ (n - 1).toNat else most
def WQ.bad (q : WQ) (most : Int) (k : Str) : WQ :=
  let q1 : WQ := { q.left k with fl := setF q.fl k ((q.fl k).getD 0 + 1) }
  if q.wk k = some true then q1.add k else q1.later k (delayZ most ((q.fl k).getD 0 + 1))
/-- where the parts of a queue stand -/
structure WP where
  p : Addr
  aw : Addr
  ak : Addr
  tt : Addr
  ff : Addr
def WP.all (a : WP) : List Addr := [a.p, a.aw, a.ak, a.tt, a.ff]
def DAt {α : Type} (U : List Str) (g : α → V) (H : Hp) (d : Addr) (f : Str → Option α) : Prop := ∃ kvs, H d = some (.dK kvs) ∧ DS U g kvs f
structure WQAt (U : List Str) (C : Addr) (H : Hp) (most : Int) (a : WP) (q : WQ) : Prop where
  ob : ∃ dx, H a.p = some (.ins C dx (fl_WorkQueue (.int most) (.ref a.aw) (.ref a.ak) (.ref a.tt) (.ref a.ff)))
  hw : H a.aw = some (.lst (q.w.map V.str))
  hk : DAt U V.bl H a.ak q.wk
  ht : DAt U V.int H a.tt q.tk
  hf : DAt U V.int H a.ff q.fl
  kt : a.ak ≠ a.tt
  kf : a.ak ≠ a.ff
  tf : a.tt ≠ a.ff
  wU : ∀ x ∈ q.w, x ∈ U
  wn : q.w.Nodup
  U12 : U.length ≤ 12
/-- all but these stand as they stood -/
def Fr (L : List Addr) (H H' : Hp) : Prop := ∀ x o, H x = some o → x ∉ L → H' x = some o
theorem Fr.refl (L : List Addr) (H : Hp) : Fr L H H := fun _ _ h _ => h
theorem Fr.trans {L : List Addr} {H H' H2 : Hp} (h : Fr L H H') (g : Fr L H' H2) : Fr L H H2 := fun x o e n => g x o (h x o e n) n
theorem Fr.of_same {L : List Addr} {H H' : Hp} (h : Same H H') : Fr L H H' := fun x o e _ => h x o e
theorem Fr.up {L : List Addr} {H H' : Hp} {a : Addr} {o : HO} (h : Fr L H H') (ha : a ∈ L) : Fr L H (upd H' a o) := fun x u e n => by
  rw [upd_ne (fun z => n (by rw [z]; exact ha))]
  exact h x u e n
theorem Fr.more {L M : List Addr} {H H' : Hp} (h : Fr L H H') (s : ∀ x ∈ L, x ∈ M) : Fr M H H' := fun x o e n => h x o e fun z => n (s x z)
section
variable {U : List Str} {C : Addr} {H H' : Hp} {most : Int} {a : WP} {q : WQ}
theorem DAt.same {α : Type} {g : α → V} {d : Addr} {f : Str → Option α} (h : DAt U g H d f) (s : Same H H') : DAt U g H' d f := by
  obtain ⟨kvs, e, r⟩ := h
  exact ⟨kvs, s _ _ e, r⟩
theorem WQAt.same (h : WQAt U C H most a q) (s : Same H H') : WQAt U C H' most a q := by
  obtain ⟨dx, ob⟩ := h.ob
  exact ⟨⟨dx, s _ _ ob⟩, s _ _ h.hw, h.hk.same s, h.ht.same s, h.hf.same s, h.kt, h.kf, h.tf, h.wU, h.wn, h.U12⟩
theorem DAt.frame {α : Type} {g : α → V} {d : Addr} {f : Str → Option α} {L : List Addr} (h : DAt U g H d f) (s : Fr L H H') (n : d ∉ L) : DAt U g H' d f := by
  obtain ⟨kvs, e, r⟩ := h
  exact ⟨kvs, s _ _ e n, r⟩
theorem WQAt.frame {L : List Addr} (h : WQAt U C H most a q) (s : Fr L H H') (n : ∀ x ∈ a.all, x ∉ L) : WQAt U C H' most a q := by
  obtain ⟨dx, ob⟩ := h.ob
  have n1 := n a.p (by simp [WP.all])
  have n2 := n a.aw (by simp [WP.all])
  have n3 := n a.ak (by simp [WP.all])
  have n4 := n a.tt (by simp [WP.all])
  have n5 := n a.ff (by simp [WP.all])
  exact ⟨⟨dx, s _ _ ob n1⟩, s _ _ h.hw n2, h.hk.frame s n3, h.ht.frame s n4, h.hf.frame s n5, h.kt, h.kf, h.tf, h.wU, h.wn, h.U12⟩
end
/-- the parts are five things -/
structure Apart (a : WP) : Prop where
  pw : a.p ≠ a.aw
  pk : a.p ≠ a.ak
  pt : a.p ≠ a.tt
  pf : a.p ≠ a.ff
  wk : a.aw ≠ a.ak
  wt : a.aw ≠ a.tt
  wf : a.aw ≠ a.ff
theorem WQAt.apart {U : List Str} {C : Addr} {H : Hp} {most : Int} {a : WP} {q : WQ} (h : WQAt U C H most a q) : Apart a := by
  obtain ⟨⟨dx, ob⟩, hw, ⟨k1, hk, _⟩, ⟨k2, ht, _⟩, ⟨k3, hf, _⟩, _⟩ := h
  exact ⟨ne_of ob hw (by intro z; cases z), ne_of ob hk (by intro z; cases z), ne_of ob ht (by intro z; cases z), ne_of ob hf (by intro z; cases z), ne_of hw hk (by intro z; cases z), ne_of hw ht (by intro z; cases z), ne_of hw hf (by intro z; cases z)⟩
def sp_wqnew (C : Addr) : Sp := fun vs H Q _ => ∃ (p dx : Addr) (most : Int), vs = [.ref p, .int most] ∧ H p = some (.ins C dx []) ∧ ∀ (a : WP) (H' : Hp), a.p = p → H a.aw = none → H a.ak = none → H a.tt = none → H a.ff = none → (∀ U : List Str, U.length ≤ 12 → WQAt U C H' most a ⟨[], fun _ => none, fun _ => none, fun _ => none⟩) → Fr [p] H H' → Q .non H'
def sp_wqadd (C : Addr) : Sp := fun vs H Q _ => ∃ (U : List Str) (a : WP) (most : Int) (q : WQ) (k : Str), vs = [.ref a.p, .str k] ∧ WQAt U C H most a q ∧ k ∈ U ∧ ∀ H', WQAt U C H' most a (q.add k) → Fr a.all H H' → Q .non H'
def sp_wqlater (C : Addr) : Sp := fun vs H Q _ => ∃ (U : List Str) (a : WP) (most : Int) (q : WQ) (k : Str) (t : Int), vs = [.ref a.p, .str k, .int t] ∧ WQAt U C H most a q ∧ k ∈ U ∧ ∀ H', WQAt U C H' most a (q.later k t) → Fr a.all H H' → Q .non H'
section
variable {P : Program} {w : World} {K : PySem.W.Frag} {mg : Str → Option Value} {base : Heap}
theorem ok_WorkQueue_add (T : TX K mg) : FnOk P w K mg base CX0 1 T.a_WorkQueue_add T.d_WorkQueue_add ["self", "key"] (sp_wqadd T.a_WorkQueue) := by
  refine T.F_WorkQueue_add.ok sc_WorkQueue_add (fun vs H Q E h => ?_) (fun cdv A outer s H vs Q E hr h => ?_)
  · obtain ⟨U, a, most, q, k, rfl, _⟩ := h
    rfl
  · obtain ⟨U, a, most, q, k, rfl, hW, hU, c⟩ := h
    refine ⟨_, (pss_one (ps_if (pt_cmp (pc_din (hu_of hr) (pv 1) (pe_fld (pv 0) rfl))) (pss_one (ps_dput (hu_of hr) (pe_fld (pv 0) rfl) (pv 1) pe_bl rfl)) (pss_one (ps_if (pt_cmpR op_notIn_seq (pv 1) (pe_fld (pv 0) rfl) rfl) (pss_cons (ps_expr (pe_bm PySem.F.plainAttrs_list PySem.F.slot_list_append PySem.F.type_list_append mt_append (pe_fld (pv 0) rfl) (pa_cons (pv 1) pa_nil)))
          (pss_one (ps_expr (pe_dpop2 (pe_fld (pv 0) rfl) (pv 1) pe_non ⟨rfl, rfl, rfl, rfl⟩)))) pss_nil)))), ?_⟩
    have ap := hW.apart
    obtain ⟨⟨dx, ob⟩, hw, ⟨k1, hk, dk⟩, ⟨k2, ht, dt⟩, ⟨k3, hf, df⟩, hkt, hkf, htf, wU, wn, u12⟩ := hW
    have l1 := ds_len dk
    have l2 := ds_len dt
    have lw := nd_len wn wU
    have dg : valV k1 (Sum.inr k) = (q.wk k).map V.bl := dk.vl k
    refine ⟨_, rfl, _, rfl, a.p, _, dx, _, _, rfl, ob, T.K_WorkQueue, T.na_WorkQueue__working, fl_WorkQueue__working, a.ak, _, rfl, DGet.k (k := Sum.inr k) hk, _, rfl, ifb2 (fun h1 => ?_) (fun h1 => ?_)⟩
    · have h1' : (q.wk k).isSome = true := by rw [dg] at h1; cases e : q.wk k with | none => rw [e] at h1; cases h1 | some _ => rfl
      refine ⟨_, rfl, a.p, _, dx, _, _, rfl, ob, T.K_WorkQueue, T.na_WorkQueue__working, fl_WorkQueue__working, _, rfl, a.ak, _, rfl, DPut.k (k := Sum.inr k) hk (szl (by omega)), ?_⟩
      refine c _ ?_ (Fr.up (Fr.refl _ _) (by simp [WP.all]))
      unfold WQ.add
      rw [if_pos h1']
      exact ⟨⟨dx, by rw [upd_ne ap.pk]; exact ob⟩, by rw [upd_ne ap.wk]; exact hw, ⟨_, upd_same, ds_put dk hU true⟩, ⟨_, by rw [upd_ne hkt.symm]; exact ht, dt⟩, ⟨_, by rw [upd_ne hkf.symm]; exact hf, df⟩, hkt, hkf, htf, wU, wn, u12⟩
    · have h1' : ¬ (q.wk k).isSome = true := by rw [dg] at h1; cases e : q.wk k with | none => simp | some _ => rw [e] at h1; cases h1
      refine ⟨_, rfl, _, rfl, a.p, _, dx, _, _, rfl, ob, T.K_WorkQueue, T.na_WorkQueue__waiting, fl_WorkQueue__waiting, a.aw, _, rfl, .inl (sql hw), rfl, flat_strs _, _, rfl, ?_⟩
      rw [inV_str]
      dsimp only
      refine ifn (fun h2 => ?_) (fun h2 => ?_)
      · refine ⟨_, rfl, a.p, _, dx, _, _, rfl, ob, T.K_WorkQueue, T.na_WorkQueue__waiting, fl_WorkQueue__waiting, .inl ⟨rfl, _, sql hw⟩, _, rfl, a.aw, _, _, rfl, rfl, hw, szl (by rw [List.length_map]; omega), ?_⟩
        have ob2 : (upd H a.aw (.lst (q.w.map V.str ++ [.str k]))) a.p = some (.ins T.a_WorkQueue dx (fl_WorkQueue (.int most) (.ref a.aw) (.ref a.ak) (.ref a.tt) (.ref a.ff))) := by rw [upd_ne ap.pw]; exact ob
        have ht2 : (upd H a.aw (.lst (q.w.map V.str ++ [.str k]))) a.tt = some (.dK k2) := by rw [upd_ne ap.wt.symm]; exact ht
        have hw2 : (upd H a.aw (.lst (q.w.map V.str ++ [.str k]))) a.aw = some (.lst ((q.w ++ [k]).map V.str)) := by rw [upd_same, List.map_append]; rfl
        have hk2 : (upd H a.aw (.lst (q.w.map V.str ++ [.str k]))) a.ak = some (.dK k1) := by rw [upd_ne ap.wk.symm]; exact hk
        have hf2 : (upd H a.aw (.lst (q.w.map V.str ++ [.str k]))) a.ff = some (.dK k3) := by rw [upd_ne ap.wf.symm]; exact hf
        have fr : Fr a.all H (upd H a.aw (.lst (q.w.map V.str ++ [.str k]))) := Fr.up (Fr.refl _ _) (by simp [WP.all])
        generalize upd H a.aw (.lst (q.w.map V.str ++ [.str k])) = G at ob2 ht2 hw2 hk2 hf2 fr
        have wU2 : ∀ x ∈ q.w ++ [k], x ∈ U := fun x hx => (List.mem_append.mp hx).elim (wU x) fun e => by rw [List.mem_singleton] at e; rw [e]; exact hU
        have wn2 : (q.w ++ [k]).Nodup := List.nodup_append.mpr ⟨wn, by simp, fun x hx y hy z => h2 (by rw [List.mem_singleton] at hy; rw [← hy, ← z]; exact hx)⟩
        have ea : q.add k = { q with w := q.w ++ [k], tk := unsF q.tk k } := by unfold WQ.add; rw [if_neg h1', if_neg h2]
        rw [ea] at c
        have dtv : valV k2 (Sum.inr k) = (q.tk k).map V.int := dt.vl k
        refine ⟨_, rfl, a.p, _, dx, _, _, rfl, ob2, T.K_WorkQueue, T.na_WorkQueue__ticks, fl_WorkQueue__ticks, a.tt, rfl, .inl ⟨_, .inl ht2⟩, _, rfl, k2, Sum.inr k, ht2, rfl, fun v hv => ?_, fun hv => ?_⟩
        · refine c _ ?_ (fr.up (by simp [WP.all]))
          exact ⟨⟨dx, by rw [upd_ne ap.pt]; exact ob2⟩, by rw [upd_ne ap.wt]; exact hw2, ⟨_, by rw [upd_ne hkt]; exact hk2, dk⟩, ⟨_, upd_same, ds_drop dt k⟩, ⟨_, by rw [upd_ne htf.symm]; exact hf2, df⟩, hkt, hkf, htf, wU2, wn2, u12⟩
        · have tn : q.tk k = none := by rw [dtv] at hv; cases e : q.tk k with | none => rfl | some _ => rw [e] at hv; cases hv
          have e2 : unsF q.tk k = q.tk := by funext s; unfold unsF; split <;> simp_all
          rw [e2] at c
          exact c _ ⟨⟨dx, ob2⟩, hw2, ⟨_, hk2, dk⟩, ⟨_, ht2, dt⟩, ⟨_, hf2, df⟩, hkt, hkf, htf, wU2, wn2, u12⟩ fr
      · have ea : q.add k = q := by unfold WQ.add; rw [if_neg h1', if_pos h2]
        rw [ea] at c
        exact c H ⟨⟨dx, ob⟩, hw, ⟨_, hk, dk⟩, ⟨_, ht, dt⟩, ⟨_, hf, df⟩, hkt, hkf, htf, wU, wn, u12⟩ (Fr.refl _ _)
end
def sp_wqtake (C : Addr) : Sp := fun vs H Q _ => ∃ (U : List Str) (a : WP) (most : Int) (q : WQ), vs = [.ref a.p] ∧ WQAt U C H most a q ∧ (q.w = [] → Q .non H) ∧ (∀ k r, q.w = k :: r → ∀ H', WQAt U C H' most a { q with w := r, wk := setF q.wk k false } → Fr a.all H H' → Q (.str k) H')
def sp_wqwait (C : Addr) : Sp := fun vs H Q _ => ∃ (U : List Str) (a : WP) (most : Int) (q : WQ), vs = [.ref a.p] ∧ WQAt U C H most a q ∧ ∀ p H', H p = none → Same H H' → H' p = some (.lst (q.w.map V.str)) → Q (.ref p) H'
/-- the names that stand in a dict, in order -/
def Ord (f : Str → Bool) (ys : List Str) : Prop := ys.Nodup ∧ sortedS ys = true ∧ ∀ s, s ∈ ys ↔ f s = true
def sp_wqwork (C : Addr) : Sp := fun vs H Q _ => ∃ (U : List Str) (a : WP) (most : Int) (q : WQ), vs = [.ref a.p] ∧ WQAt U C H most a q ∧ ∀ ys p H', Ord (fun s => (q.wk s).isSome) ys → H p = none → Same H H' → H' p = some (.lst (ys.map V.str)) → Q (.ref p) H'
def sp_wqdelayed (K : PySem.W.Frag) (C : Addr) : Sp := fun vs H Q _ => ∃ (U : List Str) (a : WP) (most : Int) (q : WQ), vs = [.ref a.p] ∧ WQAt U C H most a q ∧ ∀ ys p H' xs, Ord (fun s => (q.tk s).isSome) ys → H p = none → Same H H' → H' p = some (.lst xs) → DpAll K H' xs (ys.map fun s => .tuple [.str s, .int ((q.tk s).getD 0)]) → Q (.ref p) H'
def sp_wqfails (C : Addr) : Sp := fun vs H Q _ => ∃ (U : List Str) (a : WP) (most : Int) (q : WQ) (k : Str), vs = [.ref a.p, .str k] ∧ WQAt U C H most a q ∧ Q (.int ((q.fl k).getD 0)) H
def sp_wqdelay (C : Addr) : Sp := fun vs H Q _ => ∃ (U : List Str) (a : WP) (most : Int) (q : WQ) (k : Str) (n : Int), vs = [.ref a.p, .str k] ∧ WQAt U C H most a q ∧ q.fl k = some n ∧ 1 ≤ n ∧ 1 ≤ most ∧ most ≤ 64 ∧ Q (.int (delayZ most n)) H
theorem putF_le {f : Str} {v : V} {fs : List (Str × V)} {n : Nat} (h : fs.length ≤ n) : (putF f v fs).length ≤ n + 1 := by
  induction fs generalizing n with
  | nil => simp [putF]
  | cons p r ih =>
    unfold putF
    split
    · simp only [List.length_cons] at h ⊢
      omega
    · simp only [List.length_cons] at h ⊢
      have := ih (n := n - 1) (by omega)
      omega
theorem putF_lt {fs : List (Str × V)} {n : Nat} (h : fs.length ≤ n) (g : n < 1000) : fs.length < 1000 := by omega
theorem pow_le2 : ∀ {i j : Nat}, i ≤ j → (2 : Int) ^ i ≤ 2 ^ j := fun {i j} h => by
  obtain ⟨d, rfl⟩ := Nat.exists_eq_add_of_le h
  rw [Int.pow_add]
  have h1 : (0 : Int) < 2 ^ i := Int.pow_pos (by decide)
  have h2 : (0 : Int) < 2 ^ d := Int.pow_pos (by decide)
  have : (2 : Int) ^ i * 1 ≤ 2 ^ i * 2 ^ d := Int.mul_le_mul_of_nonneg_left (by omega) (by omega)
  omega
section
variable {P : Program} {w : World} {K : PySem.W.Frag} {mg : Str → Option Value} {base : Heap}
theorem ok_WorkQueue___init__ (T : TX K mg) : FnOk P w K mg base CX0 1 T.a_WorkQueue___init__ T.d_WorkQueue___init__ ["self", "most"] (sp_wqnew T.a_WorkQueue) := by
  refine okD T.FD_WorkQueue___init__ sc_WorkQueue___init__ (fun vs H Q E h => ?_) (fun cdv A outer s H vs Q E hr h => ?_)
  · obtain ⟨p, dx, most, rfl, _⟩ := h
    rfl
  · obtain ⟨p, dx, most, rfl, hp, c⟩ := h
    refine ⟨_, (pss_cons (ps_fld (pv 0) (pv 1) rfl)
      (pss_cons (ps_fld (pv 0) (pe_lst pa_nil) rfl)
      (pss_cons (ps_fld (pv 0) pe_dnewK rfl)
      (pss_cons (ps_fld (pv 0) pe_dnewK rfl)
      (pss_one (ps_fld (pv 0) pe_dnewK rfl)))))), ?_⟩
    refine ⟨_, rfl, _, rfl, p, T.a_WorkQueue, dx, [], rfl, hp, T.K_WorkQueue, T.na_WorkQueue__most, (by show 0 < 1000; decide), ?_⟩
    refine ⟨Nat.zero_le _, fun aw haw => ⟨_, rfl, p, T.a_WorkQueue, dx, _, rfl, by rw [upd_ne (fun z => by rw [← z, upd_same] at haw; cases haw), upd_same], T.K_WorkQueue, T.na_WorkQueue__waiting, (by show 1 < 1000; decide), ?_⟩⟩
    have n1 : aw ≠ p := fun z => by rw [z, upd_same] at haw; cases haw
    rw [upd_ne n1] at haw
    refine fun ak hak => ⟨_, rfl, p, T.a_WorkQueue, dx, _, rfl, by rw [upd_ne (fun z => by rw [← z, upd_same] at hak; cases hak), upd_same], T.K_WorkQueue, T.na_WorkQueue__working, (putF_lt (putF_le (putF_le (Nat.le_refl 0))) (by decide)), ?_⟩
    have n2 : ak ≠ p := fun z => by rw [z, upd_same] at hak; cases hak
    rw [upd_ne n2] at hak
    have n3 : ak ≠ aw := fun z => by rw [z, upd_same] at hak; cases hak
    rw [upd_ne n3, upd_ne n2] at hak
    refine fun tt htt => ⟨_, rfl, p, T.a_WorkQueue, dx, _, rfl, by rw [upd_ne (fun z => by rw [← z, upd_same] at htt; cases htt), upd_same], T.K_WorkQueue, T.na_WorkQueue__ticks, (putF_lt (putF_le (putF_le (putF_le (Nat.le_refl 0)))) (by decide)), ?_⟩
    have n4 : tt ≠ p := fun z => by rw [z, upd_same] at htt; cases htt
    rw [upd_ne n4] at htt
    have n5 : tt ≠ ak := fun z => by rw [z, upd_same] at htt; cases htt
    rw [upd_ne n5, upd_ne n4] at htt
    have n6 : tt ≠ aw := fun z => by rw [z, upd_same] at htt; cases htt
    rw [upd_ne n6, upd_ne n4] at htt
    refine fun ff hff => ⟨_, rfl, p, T.a_WorkQueue, dx, _, rfl, by rw [upd_ne (fun z => by rw [← z, upd_same] at hff; cases hff), upd_same], T.K_WorkQueue, T.na_WorkQueue__failures, (putF_lt (putF_le (putF_le (putF_le (putF_le (Nat.le_refl 0))))) (by decide)), ?_⟩
    have m4 : ff ≠ p := fun z => by rw [z, upd_same] at hff; cases hff
    rw [upd_ne m4] at hff
    have m5 : ff ≠ tt := fun z => by rw [z, upd_same] at hff; cases hff
    rw [upd_ne m5, upd_ne m4] at hff
    have m6 : ff ≠ ak := fun z => by rw [z, upd_same] at hff; cases hff
    rw [upd_ne m6, upd_ne m4] at hff
    have m7 : ff ≠ aw := fun z => by rw [z, upd_same] at hff; cases hff
    rw [upd_ne m7, upd_ne m4] at hff
    refine c ⟨p, aw, ak, tt, ff⟩ _ rfl haw hak htt hff ?_ ?_
    · intro U u12
      refine ⟨⟨dx, ?_⟩, ?_, ⟨[], ?_, ds_nil⟩, ⟨[], ?_, ds_nil⟩, ⟨[], ?_, ds_nil⟩, n5.symm, m6.symm, m5.symm, (fun _ h => by cases h), List.nodup_nil, u12⟩
      · rw [upd_same, fl_WorkQueue_new]
      · rw [upd_ne n1, upd_ne m7.symm, upd_ne n1, upd_ne n6.symm, upd_ne n1, upd_ne n3.symm, upd_ne n1, upd_same]
        rfl
      · rw [upd_ne n2, upd_ne m6.symm, upd_ne n2, upd_ne n5.symm, upd_ne n2, upd_same]
      · rw [upd_ne n4, upd_ne m5.symm, upd_ne n4, upd_same]
      · rw [upd_ne m4, upd_same]
    · intro x o hx hxp
      have hxp' : x ≠ p := by simpa using hxp
      rw [upd_ne hxp', upd_ne (ne_of_none hx hff), upd_ne hxp', upd_ne (ne_of_none hx htt), upd_ne hxp', upd_ne (ne_of_none hx hak), upd_ne hxp', upd_ne (ne_of_none hx haw), upd_ne hxp']
      exact hx
theorem ok_WorkQueue_waiting (T : TX K mg) : FnOk P w K mg base CX0 1 T.a_WorkQueue_waiting T.d_WorkQueue_waiting ["self"] (sp_wqwait T.a_WorkQueue) := by
  refine T.F_WorkQueue_waiting.ok sc_WorkQueue_waiting (fun vs H Q E h => ?_) (fun cdv A outer s H vs Q E hr h => ?_)
  · obtain ⟨U, a, most, q, rfl, _⟩ := h
    rfl
  · obtain ⟨U, a, most, q, rfl, hW, c⟩ := h
    refine ⟨_, (pss_one (ps_ret (pe_callTy call_list_of (by rfl) T.n_list (by decide +kernel) (pa_cons (pe_fld (pv 0) rfl) pa_nil)))), ?_⟩
    obtain ⟨dx, ob⟩ := hW.ob
    exact ⟨_, rfl, a.p, _, dx, _, _, rfl, ob, T.K_WorkQueue, T.na_WorkQueue__waiting, fl_WorkQueue__waiting, a.aw, _, rfl, .inl (sql hW.hw), fun l hl => c l _ hl (same_upd hl) upd_same⟩
theorem ok_WorkQueue_in_work (T : TX K mg) : FnOk P w K mg base CX0 1 T.a_WorkQueue_in_work T.d_WorkQueue_in_work ["self"] (sp_wqwork T.a_WorkQueue) := by
  refine T.F_WorkQueue_in_work.ok sc_WorkQueue_in_work (fun vs H Q E h => ?_) (fun cdv A outer s H vs Q E hr h => ?_)
  · obtain ⟨U, a, most, q, rfl, _⟩ := h
    rfl
  · obtain ⟨U, a, most, q, rfl, hW, c⟩ := h
    refine ⟨_, (pss_one (ps_ret (pe_callB (call_sortedD rfl) (by rfl) T.n_sorted (by decide +kernel) (pa_cons (pe_fld (pv 0) rfl) pa_nil)))), ?_⟩
    obtain ⟨dx, ob⟩ := hW.ob
    obtain ⟨k1, hk, dk⟩ := hW.hk
    have u12 := hW.U12
    have l1 := ds_len dk
    refine ⟨_, rfl, a.p, _, dx, _, _, rfl, ob, T.K_WorkQueue, T.na_WorkQueue__working, fl_WorkQueue__working, a.ak, k1, _, rfl, .inl hk, keys_map dk, by rw [List.length_map]; omega, fun ys p hp hs hf => ?_⟩
    exact c ys p _ ⟨hp.nodup_iff.mpr (keys_nd dk), hs, fun s => by rw [hp.mem_iff, key_iff dk]⟩ hf (same_upd hf) upd_same
theorem ok_WorkQueue_failures (T : TX K mg) : FnOk P w K mg base CX0 1 T.a_WorkQueue_failures T.d_WorkQueue_failures ["self", "key"] (sp_wqfails T.a_WorkQueue) := by
  refine T.F_WorkQueue_failures.ok sc_WorkQueue_failures (fun vs H Q E h => ?_) (fun cdv A outer s H vs Q E hr h => ?_)
  · obtain ⟨U, a, most, q, k, rfl, _⟩ := h
    rfl
  · obtain ⟨U, a, most, q, k, rfl, hW, c⟩ := h
    refine ⟨_, (pss_one (ps_ret (pe_dget2 (hu_of hr) (pe_fld (pv 0) rfl) (pv 1) pe_int ⟨rfl, rfl, rfl, rfl⟩))), ?_⟩
    obtain ⟨dx, ob⟩ := hW.ob
    obtain ⟨k3, hf, df⟩ := hW.hf
    refine ⟨_, rfl, a.p, _, dx, _, _, rfl, ob, T.K_WorkQueue, T.na_WorkQueue__failures, fl_WorkQueue__failures, a.ff, rfl, .inl ⟨_, .inl hf⟩, _, rfl, _, DGet.k (k := Sum.inr k) hf, ?_⟩
    rw [show valV k3 (Sum.inr k) = (q.fl k).map V.int from df.vl k]
    rw [show ((q.fl k).map V.int).getD (.int 0) = .int ((q.fl k).getD 0) by cases q.fl k <;> rfl]
    exact c
theorem ok_WorkQueue_take (T : TX K mg) : FnOk P w K mg base CX0 1 T.a_WorkQueue_take T.d_WorkQueue_take ["self"] (sp_wqtake T.a_WorkQueue) := by
  refine T.F_WorkQueue_take.ok sc_WorkQueue_take (fun vs H Q E h => ?_) (fun cdv A outer s H vs Q E hr h => ?_)
  · obtain ⟨U, a, most, q, rfl, _⟩ := h
    rfl
  · obtain ⟨U, a, most, q, rfl, hW, c0, c1⟩ := h
    refine ⟨_, (pss_cons (ps_if (pt_not (pt_truth (pe_fld (pv 0) rfl) (by intro _; rfl))) (pss_one (ps_ret pe_non)) pss_nil)
      (pss_cons (ps_set (i := 1) sc_WorkQueue_take.nd rfl (Or.inl rfl) (pe_bm PySem.F.plainAttrs_list PySem.F.slot_list_pop PySem.F.type_list_pop mt_popAt (pe_fld (pv 0) rfl) (pa_cons pe_int pa_nil)))
      (pss_cons (ps_dput (hu_of hr) (pe_fld (pv 0) rfl) (pv 1) pe_bl rfl)
      (pss_one (ps_ret (pv 1)))))), ?_⟩
    have ap := hW.apart
    obtain ⟨⟨dx, ob⟩, hw, ⟨k1, hk, dk⟩, ⟨k2, ht, dt⟩, ⟨k3, hf, df⟩, hkt, hkf, htf, wU, wn, u12⟩ := hW
    have l1 := ds_len dk
    refine ⟨_, rfl, a.p, _, dx, _, _, rfl, ob, T.K_WorkQueue, T.na_WorkQueue__waiting, fl_WorkQueue__waiting, _, .inl ⟨_, sql hw, rfl⟩, ?_⟩
    cases e : q.w with
    | nil => exact c0 e
    | cons k r =>
      rw [e] at hw wU wn
      refine ⟨_, rfl, a.p, _, dx, _, _, rfl, ob, T.K_WorkQueue, T.na_WorkQueue__waiting, fl_WorkQueue__waiting, .inl ⟨rfl, _, sql hw⟩, a.aw, _, 0, 0, .str k, rfl, rfl, hw, by decide, by decide, (ixN_seq (ixn (j := 0) rfl (by simp))).1, rfl, ?_⟩
      have ob2 : (upd H a.aw (.lst (r.map V.str))) a.p = some (.ins T.a_WorkQueue dx (fl_WorkQueue (.int most) (.ref a.aw) (.ref a.ak) (.ref a.tt) (.ref a.ff))) := by rw [upd_ne ap.pw]; exact ob
      have hk2 : (upd H a.aw (.lst (r.map V.str))) a.ak = some (.dK k1) := by rw [upd_ne ap.wk.symm]; exact hk
      refine ⟨_, rfl, a.p, _, dx, _, _, rfl, ob2, T.K_WorkQueue, T.na_WorkQueue__working, fl_WorkQueue__working, _, rfl, a.ak, _, rfl, DPut.k (k := Sum.inr k) hk2 (szl (by omega)), _, rfl, ?_⟩
      refine c1 k r e _ ⟨⟨dx, by rw [upd_ne ap.pk]; exact ob2⟩, by rw [upd_ne ap.wk]; exact upd_same, ⟨_, upd_same, ds_put dk (wU k List.mem_cons_self) false⟩, ⟨_, by rw [upd_ne hkt.symm, upd_ne ap.wt.symm]; exact ht, dt⟩, ⟨_, by rw [upd_ne hkf.symm, upd_ne ap.wf.symm]; exact hf, df⟩, hkt, hkf, htf, fun x hx => wU x (List.mem_cons_of_mem _ hx), (List.nodup_cons.mp wn).2, u12⟩ ((Fr.refl _ _).up (by simp [WP.all]) |>.up (by simp [WP.all]))
theorem ok_WorkQueue_add_later (T : TX K mg) : FnOk P w K mg base CX0 2 T.a_WorkQueue_add_later T.d_WorkQueue_add_later ["self", "key", "ticks"] (sp_wqlater T.a_WorkQueue) := by
  refine T.F_WorkQueue_add_later.ok sc_WorkQueue_add_later (fun vs H Q E h => ?_) (fun cdv A outer s H vs Q E hr h => ?_)
  · obtain ⟨U, a, most, q, k, t, rfl, _⟩ := h
    rfl
  · obtain ⟨U, a, most, q, k, t, rfl, hW, hU, c⟩ := h
    refine ⟨_, (pss_one (ps_if (pt_cmpR op_eq (pv 2) pe_int (nomark _)) (pss_one (ps_expr (pe_meth (pv 0) T.K_WorkQueue T.m_WorkQueue_add (ok_WorkQueue_add T) (hr.mono (by decide)) T.b_WorkQueue_add .nil pass0 (pa_cons (pv 1) pa_nil)))) (pss_one (ps_if (pt_cmpR op_notIn_seq (pv 1) (pe_fld (pv 0) rfl) rfl) (pss_one (ps_dput (hu_of hr) (pe_fld (pv 0) rfl) (pv 1) (pe_callB (call_min2 rfl) (by rfl) T.n_min (by decide +kernel) (pa_cons (pv 2) (pa_cons (pe_dget2 (hu_of hr) (pe_fld (pv 0) rfl) (pv 1) (pv 2) ⟨rfl, rfl, rfl, rfl⟩) pa_nil))) rfl)) pss_nil)))), ?_⟩
    have ap := hW.apart
    have hW0 := hW
    obtain ⟨⟨dx, ob⟩, hw, ⟨k1, hk, dk⟩, ⟨k2, ht, dt⟩, ⟨k3, hf, df⟩, hkt, hkf, htf, wU, wn, u12⟩ := hW
    have l2 := ds_len dt
    refine ⟨_, rfl, rfl, _, rfl, ifd (fun h1 => ?_) (fun h1 => ?_)⟩
    · have h1' : t = 0 := V.int.inj h1
      unfold WQ.later at c
      rw [if_pos h1'] at c
      exact ⟨_, rfl, a.p, dx, _, rfl, ob, fl_WorkQueue_no_add, _, rfl, U, a, most, q, k, rfl, hW0, hU, c⟩
    · have h1' : ¬ t = 0 := fun z => h1 (by rw [z])
      unfold WQ.later at c
      rw [if_neg h1'] at c
      refine ⟨_, rfl, _, rfl, a.p, _, dx, _, _, rfl, ob, T.K_WorkQueue, T.na_WorkQueue__waiting, fl_WorkQueue__waiting, a.aw, _, rfl, .inl (sql hw), rfl, flat_strs _, _, rfl, ?_⟩
      rw [inV_str]
      dsimp only
      refine ifn (fun h2 => ?_) (fun h2 => ?_)
      · rw [if_neg h2] at c
        refine ⟨_, rfl, _, rfl, a.p, _, dx, _, _, rfl, ob, T.K_WorkQueue, T.na_WorkQueue__ticks, fl_WorkQueue__ticks, a.tt, rfl, .inl ⟨_, .inl ht⟩, _, rfl, _, rfl, _, DGet.k (k := Sum.inr k) ht, ?_⟩
        rw [show valV k2 (Sum.inr k) = (q.tk k).map V.int from dt.vl k]
        rw [show ((q.tk k).map V.int).getD (.int t) = .int ((q.tk k).getD t) by cases q.tk k <;> rfl]
        refine ⟨_, _, rfl, _, rfl, a.p, _, dx, _, _, rfl, ob, T.K_WorkQueue, T.na_WorkQueue__ticks, fl_WorkQueue__ticks, _, rfl, a.tt, _, rfl, DPut.k (k := Sum.inr k) ht (szl (by omega)), ?_⟩
        exact c _ ⟨⟨dx, by rw [upd_ne ap.pt]; exact ob⟩, by rw [upd_ne ap.wt]; exact hw, ⟨_, by rw [upd_ne hkt]; exact hk, dk⟩, ⟨_, upd_same, ds_put dt hU _⟩, ⟨_, by rw [upd_ne htf.symm]; exact hf, df⟩, hkt, hkf, htf, wU, wn, u12⟩ ((Fr.refl _ _).up (by simp [WP.all]))
      · rw [if_pos h2] at c
        exact c H hW0 (Fr.refl _ _)
theorem ok_WorkQueue__delay (T : TX K mg) : FnOk P w K mg base CX0 1 T.a_WorkQueue__delay T.d_WorkQueue__delay ["self", "key"] (sp_wqdelay T.a_WorkQueue) := by
  refine T.F_WorkQueue__delay.ok sc_WorkQueue__delay (fun vs H Q E h => ?_) (fun cdv A outer s H vs Q E hr h => ?_)
  · obtain ⟨U, a, most, q, k, n, rfl, _⟩ := h
    rfl
  · obtain ⟨U, a, most, q, k, n, rfl, hW, hn, n1, m1, m64, c⟩ := h
    refine ⟨_, (pss_cons (ps_set (i := 2) sc_WorkQueue__delay.nd rfl (Or.inl rfl) pe_int)
      (pss_cons (ps_set (i := 3) sc_WorkQueue__delay.nd rfl (Or.inl rfl) (pe_dget (hu_of hr) (pe_fld (pv 0) rfl) (pv 1) (fun _ _ => rfl)))
      (pss_cons (ps_while PassesOwn.never (PW.pt (pw_and (pt_cmpR op_gt (pv 3) pe_int (nomark _)) (pw_and1 (pt_cmpR op_lt (pv 2) (pe_fld (pv 0) rfl) (nomark _)))))
        (pss_cons (ps_aug (i := 2) sc_WorkQueue__delay.nd rfl (Or.inl rfl) pe_int ip_mul)
        (pss_one (ps_aug (i := 3) sc_WorkQueue__delay.nd rfl (Or.inl rfl) pe_int ip_sub))))
      (pss_one (ps_ret (pe_callB (call_min2 rfl) (by rfl) T.n_min (by decide +kernel) (pa_cons (pv 2) (pa_cons (pe_fld (pv 0) rfl) pa_nil)))))))), ?_⟩
    obtain ⟨dx, ob⟩ := hW.ob
    obtain ⟨k3, hf, df⟩ := hW.hf
    have hv : valV k3 (Sum.inr k) = some (.int n) := by rw [df.vl k, hn]; rfl
    refine ⟨_, rfl, a.p, _, dx, _, _, rfl, ob, T.K_WorkQueue, T.na_WorkQueue__failures, fl_WorkQueue__failures, _, rfl, a.ff, .int n, rfl, by rw [← hv]; exact DGet.k (k := Sum.inr k) hf, ?_⟩
    refine while_by (fun σ H' => H' = H ∧ ∃ (j : Nat) (d : Int), σ = [some (.ref a.p), some (.str k), some (.int d), some (.int (n - j))] ∧ d = 2 ^ j ∧ 1 ≤ n - j ∧ d ≤ 128)
      (fun σ _ => match σ with | [_, _, _, some (.int m)] => m.toNat | _ => 0)
      ⟨rfl, 0, 1, congrArg (fun m => [some (V.ref a.p), some (V.str k), some (V.int 1), some (V.int m)]) (show n = n - ((0 : Nat) : Int) by omega), rfl, by omega, by decide⟩ ?_
      (fun σ H Q Q' hq h => ?_)
    · rintro σ _ ⟨rfl, j, d, rfl, hd, hj, h128⟩
      refine ⟨_, rfl, _, _, rfl, rfl, _, rfl, ifd (fun h1 => ?_) (fun h1 => ?_)⟩
      · have h1' : (1 : Int) < n - j := h1
        refine ⟨_, rfl, _, rfl, a.p, _, dx, _, _, rfl, ob, T.K_WorkQueue, T.na_WorkQueue__most, fl_WorkQueue__most, _, _, rfl, rfl, _, rfl, ifd (fun h2 => ?_) (fun h2 => ?_)⟩
        · have h2' : d < most := h2
          refine ⟨_, rfl, _, _, rfl, rfl, ⟨by rw [hd]; have : (0 : Int) < 2 ^ j := Int.pow_pos (by decide); omega, by omega⟩, _, rfl, _, _, rfl, rfl, ⟨rfl, j + 1, d * 2, ?_, ?_, by omega, by omega⟩, ?_⟩
          · have : n - (j : Int) - 1 = n - ((j + 1 : Nat) : Int) := by omega
            rw [← this]
            rfl
          · rw [hd, Int.pow_succ]
          · show (n - (j : Int) - 1).toNat < (n - (j : Int)).toNat
            omega
        · have h2' : ¬ d < most := h2
          refine ⟨_, rfl, _, rfl, a.p, _, dx, _, _, rfl, ob, T.K_WorkQueue, T.na_WorkQueue__most, fl_WorkQueue__most, _, _, rfl, ?_⟩
          have e1 : delayZ most n = most := by
            unfold delayZ
            have : (2 : Int) ^ j ≤ 2 ^ (n - 1).toNat := pow_le2 (by omega)
            rw [if_neg (by rw [hd] at h2'; omega)]
          rw [e1] at c
          by_cases h3 : most < d
          · rw [if_pos h3]; exact c
          · rw [if_neg h3]; rw [show d = most by omega]; exact c
      · have h1' : ¬ (1 : Int) < n - j := h1
        refine ⟨_, rfl, _, rfl, a.p, _, dx, _, _, rfl, ob, T.K_WorkQueue, T.na_WorkQueue__most, fl_WorkQueue__most, _, _, rfl, ?_⟩
        have ej : (n - 1).toNat = j := by omega
        unfold delayZ at c
        rw [ej, ← hd] at c
        by_cases h3 : most < d
        · rw [if_pos h3]
          rw [if_neg (by omega)] at c
          exact c
        · rw [if_neg h3]
          by_cases h4 : d < most
          · rw [if_pos h4] at c
            exact c
          · rw [if_neg h4] at c
            rw [show d = most by omega]
            exact c
    · obtain ⟨v, h1, i, j, e1, e2, b, e3, h⟩ := h
      refine ⟨v, h1, i, j, e1, e2, b, e3, ?_⟩
      cases b with
      | false => exact hq _ _ h
      | true =>
        obtain ⟨v2, g1, v3, g2, x, C, dx, fs, y, g3, g4, g5, g6, g7, i2, j2, g8, g9, b2, g10, h⟩ := h
        exact ⟨v2, g1, v3, g2, x, C, dx, fs, y, g3, g4, g5, g6, g7, i2, j2, g8, g9, b2, g10, hq _ _ h⟩
end
def sp_wqtick (C : Addr) : Sp := fun vs H Q _ => ∃ (U : List Str) (a : WP) (most : Int) (q : WQ), vs = [.ref a.p] ∧ WQAt U C H most a q ∧
  ∀ (ys : List Str) (d : Addr) (H' : Hp), Ord (fun s => decide (q.tk s = some 1)) ys → H d = none → WQAt U C H' most { a with tt := d } (q.pass ys) → Fr a.all H H' → Q .non H'
def decV : V → V
  | .int t => .int (t - 1)
  | v => v
def decF (f : Str → Option Int) : Str → Option Int := fun s => (f s).map (· - 1)
theorem ds_map {α : Type} {U : List Str} {g : α → V} {kvs : List (Key × V)} {f : Str → Option α} (h : DS U g kvs f) (G : V → V) (e : α → α) (he : ∀ x, G (g x) = g (e x)) :
    DS U g ((kvs.filter fun _ => true).map fun kv => (kv.1, G kv.2)) (fun s => (f s).map e) := by
  have e0 : (kvs.filter fun _ => true) = kvs := List.filter_eq_self.mpr fun _ _ => rfl
  rw [e0]
  refine ⟨?_, ?_, fun s => ?_⟩
  · rw [List.map_map]
    exact h.nd
  · intro kv hm
    obtain ⟨kv', hm', rfl⟩ := List.mem_map.mp hm
    exact h.ks kv' hm'
  · have e1 : ∀ l : List (Key × V), valV (l.map fun kv => (kv.1, G kv.2)) (Sum.inr s) = (valV l (Sum.inr s)).map G := by
      intro l
      induction l with
      | nil => rfl
      | cons p r ih =>
        rw [List.map_cons]
        by_cases hp : p.1 = Sum.inr s
        · rw [valV_pos (p := (p.1, G p.2)) hp, valV_pos hp]
          rfl
        · rw [valV_neg (p := (p.1, G p.2)) hp, valV_neg hp, ih]
    rw [e1, h.vl]
    cases f s with
    | none => rfl
    | some x => exact congrArg some (he x)
theorem val_at : ∀ {kvs : List (Key × V)} {i : Nat} {k : Key} {v : V}, (kvs.map (·.1)).Nodup → kvs[i]? = some (k, v) → valV kvs k = some v
  | [], i, k, v, _, h => by simp at h
  | kv :: r, 0, k, v, nd, h => by
    simp only [List.getElem?_cons_zero, Option.some.injEq] at h
    subst h
    exact valV_pos rfl
  | kv :: r, i + 1, k, v, nd, h => by
    simp only [List.getElem?_cons_succ] at h
    rw [List.map_cons, List.nodup_cons] at nd
    rw [valV_neg fun z => nd.1 (by rw [z]; exact List.mem_map.mpr ⟨_, List.mem_of_getElem? h, rfl⟩)]
    exact val_at nd.2 h
/-- a text's entry -/
theorem ds_at {α : Type} {U : List Str} {g : α → V} {kvs : List (Key × V)} {f : Str → Option α} (h : DS U g kvs f) {i : Nat} {k : Key} {v : V} (e : kvs[i]? = some (k, v)) : ∃ s x, k = Sum.inr s ∧ f s = some x ∧ v = g x ∧ valV kvs (Sum.inr s) = some (g x) := by
  obtain ⟨s, _, hk⟩ := h.ks _ (List.mem_of_getElem? e)
  have hk' : k = Sum.inr s := hk
  subst hk'
  have hv := val_at h.nd e
  have h2 := hv
  rw [h.vl s] at h2
  cases hf : f s with
  | none => rw [hf] at h2; cases h2
  | some x =>
    rw [hf] at h2
    have : v = g x := (Option.some.inj h2).symm
    exact ⟨s, x, rfl, hf, this, by rw [hv, this]⟩
def WQ.step (q : WQ) (k : Str) : WQ := ({ q with tk := unsF q.tk k } : WQ).add k
theorem step_tk (q : WQ) (k : Str) : (q.step k).tk = unsF q.tk k := by
  unfold WQ.step WQ.add
  have : unsF (unsF q.tk k) k = unsF q.tk k := by funext s; unfold unsF; split <;> rfl
  dsimp only
  split
  · rfl
  · split
    · rfl
    · exact this
theorem fold_tk : ∀ (ys : List Str) (q : WQ) (s : Str), (ys.foldl WQ.step q).tk s = if s ∈ ys then none else q.tk s
  | [], q, s => by simp
  | y :: ys, q, s => by
    rw [List.foldl_cons, fold_tk ys, step_tk]
    unfold unsF
    by_cases h : s ∈ ys
    · simp [h]
    · by_cases h2 : s = y
      · simp [h, h2]
      · simp [h, h2]
section
variable {P : Program} {w : World} {K : PySem.W.Frag} {mg : Str → Option Value} {base : Heap}
theorem ok_WorkQueue_tick (T : TX K mg) : FnOk P w K mg base CX0 2 T.a_WorkQueue_tick T.d_WorkQueue_tick ["self"] (sp_wqtick T.a_WorkQueue) := by
  refine T.F_WorkQueue_tick.ok sc_WorkQueue_tick (fun vs H Q E h => ?_) (fun cdv A outer s H vs Q E hr h => ?_)
  · obtain ⟨U, a, most, q, rfl, _⟩ := h
    rfl
  · obtain ⟨U, a, most, q, rfl, hW, c⟩ := h
    refine ⟨_, (pss_cons (ps_fld (pv 0) (pe_lock (pe_dc (own := [("key", 2)]) (g := gName 2) (tt := tYes) (by rfl) sc_WorkQueue_tick.nd (pi_keys (pe_fld (pv 0) rfl)) (blkOk_by (own := [("key", 2)]) (N := ["self", "ended", "key"]) (sc := defScope s_WorkQueue_tick) (by decide +kernel)) (fun _ _ _ _ _ => pg_name (i := 2) sc_WorkQueue_tick.nd rfl (Or.inl rfl)) (fun _ _ _ _ _ => pts_nil) (fun _ _ _ _ _ => (pv 2)) (fun _ _ _ _ _ => (pe_op op_sub (pe_dget (hu_of hr) (pe_fldK (K := K) rfl (pv 0) rfl) (pv 2) (fun _ _ => rfl)) pe_int)))) rfl)
      (pss_cons (ps_set (i := 1) sc_WorkQueue_tick.nd rfl (Or.inl rfl) (pe_callB cr_sortedS (by rfl) T.n_sorted (by decide +kernel) (pa_cons (pe_lock (pe_lc (own := [("key", 2)]) (g := gName 2)  (by rfl) sc_WorkQueue_tick.nd (pi_keys (pe_fld (pv 0) rfl)) (blkOk_by (own := [("key", 2)]) (N := ["self", "ended", "key"]) (sc := defScope s_WorkQueue_tick) (by decide +kernel)) (fun _ _ _ _ _ => pg_name (i := 2) sc_WorkQueue_tick.nd rfl (Or.inl rfl)) (fun _ _ _ _ _ => pts_one (pt_cmpR op_eq (pe_dget (hu_of hr) (pe_fldK (K := K) rfl (pv 0) rfl) (pv 2) (fun _ _ => rfl)) pe_int (nomark _))) (fun _ _ _ _ _ => (pv 2)))) pa_nil)))
      (pss_one (ps_for PassesOwn.never rfl (pi_list (pv 1)) (pg_name (i := 2) sc_WorkQueue_tick.nd rfl (Or.inl rfl))
        (pss_cons (ps_ddel (pe_fld (pv 0) rfl) (pv 2))
        (pss_one (ps_expr (pe_meth (pv 0) T.K_WorkQueue T.m_WorkQueue_add (ok_WorkQueue_add T) (hr.mono (by decide)) T.b_WorkQueue_add .nil pass0 (pa_cons (pv 2) pa_nil))))))))), ?_⟩
    have ap := hW.apart
    obtain ⟨⟨dx, ob⟩, hw, ⟨k1, hk, dk⟩, ⟨k2, ht, dt⟩, ⟨k3, hf, df⟩, hkt, hkf, htf, wU, wn, u12⟩ := hW
    have l2 := ds_len dt
    dsimp only [L2.tSeq, L2.sFld]
    refine dc_keys (s := 2) a.tt k2 (fun _ => true) (fun kv => decV kv.2) ht (by omega) dt.nd (fun od => ei_fld rfl (by rw [upd_ne ap.pt]; exact ob) T.K_WorkQueue T.na_WorkQueue__ticks fl_WorkQueue__ticks) ?_ (fun od i k v G Q' hk _ q => ?_) (fun od i k v G Q' hk hf s q => ?_) ?_ (fun D H' hD hs hl => ?_)
    · exact fun _ => rfl
    · exact q
    · obtain ⟨z, x, rfl, hx, rfl, hv⟩ := ds_at dt hk
      refine ⟨_, rfl, a.p, _, dx, _, _, rfl, s _ _ (by rw [upd_ne ap.pt]; exact ob), T.K_WorkQueue, T.na_WorkQueue__ticks, fl_WorkQueue__ticks, _, rfl, a.tt, .int x, rfl, ?_, _, _, rfl, rfl, q⟩
      rw [← hv]
      exact .inl ⟨k2, _, .inr ⟨od, s _ _ upd_same⟩, rfl, rfl⟩
    · intro i h
      rw [← h]
      exact Nat.lt_succ_self 2
    · have nDp : D ≠ a.p := fun z => by rw [z, ob] at hD; cases hD
      have nDw : D ≠ a.aw := fun z => by rw [z, hw] at hD; cases hD
      have nDk : D ≠ a.ak := fun z => by rw [z, hk] at hD; cases hD
      have nDf : D ≠ a.ff := fun z => by rw [z, hf] at hD; cases hD
      refine ⟨_, rfl, a.p, T.a_WorkQueue, dx, _, rfl, hs _ _ ob, T.K_WorkQueue, T.na_WorkQueue__ticks, (by show 5 < 1000; decide), ?_⟩
      rw [pf_WorkQueue__ticks]
      have fr0 : Fr a.all H (upd H' a.p (.ins T.a_WorkQueue dx (fl_WorkQueue (.int most) (.ref a.aw) (.ref a.ak) (.ref D) (.ref a.ff)))) := (Fr.of_same hs).up (by simp [WP.all])
      have ob1 : (upd H' a.p (.ins T.a_WorkQueue dx (fl_WorkQueue (.int most) (.ref a.aw) (.ref a.ak) (.ref D) (.ref a.ff)))) a.p = some (.ins T.a_WorkQueue dx (fl_WorkQueue (.int most) (.ref a.aw) (.ref a.ak) (.ref D) (.ref a.ff))) := upd_same
      have hw1 : (upd H' a.p (.ins T.a_WorkQueue dx (fl_WorkQueue (.int most) (.ref a.aw) (.ref a.ak) (.ref D) (.ref a.ff)))) a.aw = some (.lst (q.w.map V.str)) := by rw [upd_ne ap.pw.symm]; exact hs _ _ hw
      have ht1 : (upd H' a.p (.ins T.a_WorkQueue dx (fl_WorkQueue (.int most) (.ref a.aw) (.ref a.ak) (.ref D) (.ref a.ff)))) a.tt = some (.dK k2) := by rw [upd_ne ap.pt.symm]; exact hs _ _ ht
      have hk1 : (upd H' a.p (.ins T.a_WorkQueue dx (fl_WorkQueue (.int most) (.ref a.aw) (.ref a.ak) (.ref D) (.ref a.ff)))) a.ak = some (.dK k1) := by rw [upd_ne ap.pk.symm]; exact hs _ _ hk
      have hf1 : (upd H' a.p (.ins T.a_WorkQueue dx (fl_WorkQueue (.int most) (.ref a.aw) (.ref a.ak) (.ref D) (.ref a.ff)))) a.ff = some (.dK k3) := by rw [upd_ne ap.pf.symm]; exact hs _ _ hf
      have hD1 : (upd H' a.p (.ins T.a_WorkQueue dx (fl_WorkQueue (.int most) (.ref a.aw) (.ref a.ak) (.ref D) (.ref a.ff)))) D = some (.dK ((k2.filter fun kv => true).map fun kv => (kv.1, decV kv.2))) := by rw [upd_ne nDp]; exact hl
      generalize upd H' a.p (.ins T.a_WorkQueue dx (fl_WorkQueue (.int most) (.ref a.aw) (.ref a.ak) (.ref D) (.ref a.ff))) = G at fr0 ob1 hw1 hk1 ht1 hf1 hD1
      have dm := ds_map dt decV (fun t => t - 1) (fun _ => rfl)
      generalize hkD : ((k2.filter fun kv => true).map fun kv => (kv.1, decV kv.2)) = kD at hD1 dm
      have lD := ds_len dm
      dsimp only [L2.tSeq, L2.tAsg, L2.tCB, L2.tCons, L2.tNil]
      refine lc_keys (s := 2) D kD (fun k => decide (valV kD k = some (.int 0))) (fun k => kV k) hD1 (by omega) (fun od => ei_fld rfl (by rw [upd_ne nDp.symm]; exact ob1) T.K_WorkQueue T.na_WorkQueue__ticks fl_WorkQueue__ticks) (fun _ => rfl) (fun od i k v G' Q' hk s q => ?_) (fun od i k v G' Q' hk s q => ?_) (fun L H2 hL s2 hl2 => ?_)
      · obtain ⟨z, x, rfl, hx, rfl, hv⟩ := ds_at dm hk
        refine ⟨_, rfl, a.p, _, dx, _, _, rfl, s _ _ (by rw [upd_ne nDp.symm]; exact ob1), T.K_WorkQueue, T.na_WorkQueue__ticks, fl_WorkQueue__ticks, _, rfl, D, .int x, rfl, ?_, rfl, _, rfl, ?_⟩
        · rw [← hv]
          exact .inl ⟨kD, _, .inr ⟨od, s _ _ upd_same⟩, rfl, rfl⟩
        · rw [hv] at q
          have : decide ((some (V.int x) : Option V) = some (V.int 0)) = decide (V.int x = V.int 0) := by rw [Bool.eq_iff_iff]; simp
          rw [this] at q
          exact q
      · exact ⟨_, rfl, q⟩
      · -- ended: sorted
        have eL : ((kD.filter fun kv => decide (valV kD kv.1 = some (V.int 0))).map fun kv => kV kv.1) = (((kD.filter fun kv => decide (valV kD kv.1 = some (V.int 0))).map fun kv => keyS kv.1)).map V.str := by
          rw [List.map_map]
          apply List.map_congr_left
          intro kv hm
          obtain ⟨z, _, e⟩ := dm.ks kv (List.mem_filter.mp hm).1
          show kV kv.1 = V.str (keyS kv.1)
          rw [e]
          rfl
        rw [eL] at hl2
        generalize hes : ((kD.filter fun kv => decide (valV kD kv.1 = some (V.int 0))).map fun kv => keyS kv.1) = es at hl2
        have esn : es.Nodup := by
          rw [← hes]
          exact (List.filter_sublist.map _).nodup (keys_nd dm)
        have esl : es.length ≤ 12 := by
          rw [← hes, List.length_map]
          have := List.length_filter_le (fun kv : Key × V => decide (valV kD kv.1 = some (V.int 0))) kD
          omega
        have esm : ∀ z, z ∈ es ↔ q.tk z = some 1 := fun z => by
          have hv := dm.vl z
          have e2 : z ∈ es ↔ valV kD (Sum.inr z) = some (V.int 0) := by
            rw [← hes]
            constructor
            · intro h
              obtain ⟨kv, hm, rfl⟩ := List.mem_map.mp h
              obtain ⟨h1, h2⟩ := List.mem_filter.mp hm
              obtain ⟨z, _, e⟩ := dm.ks kv h1
              rw [e] at h2 ⊢
              exact of_decide_eq_true h2
            · intro h
              have h3 := (key_iff dm z).mpr (by
                have : (valV kD (Sum.inr z)).isSome = true := by rw [h]; rfl
                rw [hv] at this
                cases e : (q.tk z).map (· - 1) with
                | none => rw [e] at this; cases this
                | some _ => rfl)
              obtain ⟨kv, hm, rfl⟩ := List.mem_map.mp h3
              refine List.mem_map.mpr ⟨kv, List.mem_filter.mpr ⟨hm, ?_⟩, rfl⟩
              obtain ⟨z', _, e⟩ := dm.ks kv hm
              rw [e] at h ⊢
              exact decide_eq_true h
          rw [e2, hv]
          cases q.tk z with
          | none => simp
          | some t =>
            show some (V.int (t - 1)) = some (V.int 0) ↔ some t = some 1
            simp only [Option.some.injEq, V.int.injEq]
            omega
        refine ⟨L, es, rfl, sql hl2, by omega, fun ys B hp srt hB => ?_⟩
        have s3 := s2.trans (same_upd (o := .lst (ys.map V.str)) hB)
        have ysn : ys.Nodup := hp.nodup_iff.mpr esn
        have ysm : ∀ z, z ∈ ys ↔ q.tk z = some 1 := fun z => by rw [hp.mem_iff, esm]
        have ysl : ys.length ≤ 12 := by rw [hp.length_eq]; exact esl
        have hB1 : upd H2 B (.lst (ys.map V.str)) B = some (.lst (ys.map V.str)) := upd_same
        have hBG : G B = none := s2.free hB
        have hBH : H B = none := by
          cases e : H B with
          | none => rfl
          | some o =>
            exfalso
            by_cases hm : B ∈ a.all
            · have : B = a.p ∨ B = a.aw ∨ B = a.ak ∨ B = a.tt ∨ B = a.ff := by simpa [WP.all] using hm
              rcases this with rfl | rfl | rfl | rfl | rfl
              · rw [ob1] at hBG; cases hBG
              · rw [hw1] at hBG; cases hBG
              · rw [hk1] at hBG; cases hBG
              · rw [ht1] at hBG; cases hBG
              · rw [hf1] at hBG; cases hBG
            · rw [fr0 B o e hm] at hBG
              cases hBG
        generalize hG1 : upd H2 B (.lst (ys.map V.str)) = G1 at s3 hB1
        have nB : B ∉ ({ a with tt := D } : WP).all := fun hm => by
          have : B = a.p ∨ B = a.aw ∨ B = a.ak ∨ B = D ∨ B = a.ff := by simpa [WP.all] using hm
          rcases this with rfl | rfl | rfl | rfl | rfl
          · rw [ob1] at hBG; cases hBG
          · rw [hw1] at hBG; cases hBG
          · rw [hk1] at hBG; cases hBG
          · rw [hD1] at hBG; cases hBG
          · rw [hf1] at hBG; cases hBG
        have hU : ∀ y ∈ ys, y ∈ U := fun y hy => keys_in dt y ((key_iff dt y).mpr (by rw [(ysm y).mp hy]; rfl))
        have hW0 : WQAt U T.a_WorkQueue G1 most { a with tt := D } { q with tk := decF q.tk } :=
          ⟨⟨dx, s3 _ _ ob1⟩, s3 _ _ hw1, ⟨k1, s3 _ _ hk1, dk⟩, ⟨kD, s3 _ _ hD1, dm⟩, ⟨k3, s3 _ _ hf1, df⟩, nDk.symm, hkf, nDf, wU, wn, u12⟩
        refine ⟨_, rfl, B, rfl, ⟨_, sql hB1⟩, for_list (K := K) (a := B) (xs := ys.map V.str) (fun i σ G2 => ∃ v2, σ = [some (.ref a.p), some (.ref B), v2] ∧ WQAt U T.a_WorkQueue G2 most { a with tt := D } ((ys.take i).foldl WQ.step { q with tk := decF q.tk }) ∧ Fr ({ a with tt := D } : WP).all G1 G2)
          ⟨none, rfl, hW0, Fr.refl _ _⟩ (fun i σ G2 _ ⟨_, _, _, f⟩ => sql (f _ _ hB1 nB)) ?_ ?_⟩
        · rintro i x σ G2 hx ⟨v2, rfl, hW, fr⟩
          obtain ⟨y, hy, rfl⟩ := map_at hx
          have hym := List.mem_of_getElem? hy
          have hyn : y ∉ ys.take i := fun hm => by
            obtain ⟨j, hj, e⟩ := List.getElem_of_mem hm
            rw [List.length_take] at hj
            rw [List.getElem_take] at e
            obtain ⟨hi, e2⟩ := List.getElem?_eq_some_iff.mp hy
            have := (List.getElem_inj ysn).mp (e.trans e2.symm)
            omega
          have hstep := take_more hy
          have htk : ((ys.take i).foldl WQ.step { q with tk := decF q.tk }).tk y = some 0 := by
            rw [fold_tk, if_neg hyn]
            show (q.tk y).map (· - 1) = some 0
            rw [(ysm y).mp hym]
            rfl
          generalize hq' : (ys.take i).foldl WQ.step { q with tk := decF q.tk } = q' at hW htk
          have ap' := hW.apart
          obtain ⟨⟨dx', ob'⟩, hw', ⟨k1', hk', dk'⟩, ⟨k2', ht', dt'⟩, ⟨k3', hf', df'⟩, hkt', hkf', htf', wU', wn', u12'⟩ := hW
          have hv' : valV k2' (Sum.inr y) = some (.int 0) := by rw [dt'.vl y, htk]; rfl
          refine ⟨_, rfl, a.p, _, dx', _, _, rfl, ob', T.K_WorkQueue, T.na_WorkQueue__ticks, fl_WorkQueue__ticks, _, rfl, D, k2', Sum.inr y, rfl, ht', rfl, by rw [hv']; rfl, ?_⟩
          have ob2 : (upd G2 D (.dK (dropK k2' (Sum.inr y)))) a.p = some (.ins T.a_WorkQueue dx' (fl_WorkQueue (.int most) (.ref a.aw) (.ref a.ak) (.ref D) (.ref a.ff))) := by rw [upd_ne nDp.symm]; exact ob'
          refine ⟨_, rfl, a.p, dx', _, rfl, ob2, fl_WorkQueue_no_add, _, rfl, U, { a with tt := D }, most, { q' with tk := unsF q'.tk y }, y, rfl, ?_, hU y hym, fun H3 hW3 fr3 => ?_⟩
          · exact ⟨⟨dx', ob2⟩, by rw [upd_ne nDw.symm]; exact hw', ⟨k1', by rw [upd_ne nDk.symm]; exact hk', dk'⟩, ⟨_, upd_same, ds_drop dt' y⟩, ⟨k3', by rw [upd_ne nDf.symm]; exact hf', df'⟩, hkt', hkf', htf', wU', wn', u12'⟩
          · refine ⟨_, rfl, ?_, (fr.up (by simp [WP.all])).trans fr3⟩
            rw [hstep, List.foldl_append, hq']
            exact hW3
        · rintro σ G2 ⟨v2, rfl, hW, fr⟩
          rw [List.length_map, List.take_length] at hW
          refine c ys D G2 ⟨ysn, srt, fun z => by rw [ysm z]; simp⟩ hD hW fun x o hx hm => ?_
          refine fr x o (s3 _ _ (fr0 x o hx hm)) fun hm2 => hm ?_
          have : x = a.p ∨ x = a.aw ∨ x = a.ak ∨ x = D ∨ x = a.ff := by simpa [WP.all] using hm2
          rcases this with rfl | rfl | rfl | rfl | rfl
          · simp [WP.all]
          · simp [WP.all]
          · simp [WP.all]
          · rw [hx] at hD; cases hD
          · simp [WP.all]
theorem ok_WorkQueue_delayed (T : TX K mg) : FnOk P w K mg base CX0 1 T.a_WorkQueue_delayed T.d_WorkQueue_delayed ["self"] (sp_wqdelayed K T.a_WorkQueue) := by
  refine T.F_WorkQueue_delayed.ok sc_WorkQueue_delayed (fun vs H Q E h => ?_) (fun cdv A outer s H vs Q E hr h => ?_)
  · obtain ⟨U, a, most, q, rfl, _⟩ := h
    rfl
  · obtain ⟨U, a, most, q, rfl, hW, c⟩ := h
    refine ⟨_, (pss_one (ps_ret (pe_lc (own := [("key", 1)]) (g := gName 1) (tt := tYes) (by rfl) sc_WorkQueue_delayed.nd (pi_list (pe_callB (call_sortedD rfl) (by rfl) T.n_sorted (by decide +kernel) (pa_cons (pe_fld (pv 0) rfl) pa_nil))) (blkOk_by (own := [("key", 1)]) (N := ["self", "key"]) (sc := defScope s_WorkQueue_delayed) (by decide +kernel)) (fun _ _ _ _ _ => pg_name (i := 1) sc_WorkQueue_delayed.nd rfl (Or.inl rfl)) (fun _ _ _ _ _ => pts_nil) (fun _ _ _ _ _ => (pe_tup (pa_cons (pv 1) (pa_cons (pe_dget (hu_of hr) (pe_fldK (K := K) rfl (pv 0) rfl) (pv 1) (fun _ _ => rfl)) pa_nil))))))), ?_⟩
    obtain ⟨dx, ob⟩ := hW.ob
    obtain ⟨k2, ht, dt⟩ := hW.ht
    have u12 := hW.U12
    have l2 := ds_len dt
    refine ⟨_, rfl, a.p, _, dx, _, _, rfl, ob, T.K_WorkQueue, T.na_WorkQueue__ticks, fl_WorkQueue__ticks, a.tt, k2, _, rfl, .inl ht, keys_map dt, by rw [List.length_map]; omega, fun ys B hp srt hB => ?_⟩
    have ysm : ∀ z, z ∈ ys ↔ (q.tk z).isSome = true := fun z => by rw [hp.mem_iff, key_iff dt]
    have ysl : ys.length ≤ 12 := by rw [hp.length_eq, List.length_map]; omega
    have s1 := same_upd (o := .lst (ys.map V.str)) hB
    have hB1 : upd H B (.lst (ys.map V.str)) B = some (.lst (ys.map V.str)) := upd_same
    generalize upd H B (.lst (ys.map V.str)) = G at s1 hB1
    refine ⟨B, rfl, ⟨_, sql hB1⟩, fun D hD => ?_⟩
    refine lc_list (K := K) (a := B) (xs := ys.map V.str) (fun i H' => ∃ Gx xs, Same G Gx ∧ Same Gx H' ∧ Gx D = none ∧ H' D = some (.lst xs) ∧ DpAll K Gx xs ((ys.take i).map fun s => .tuple [.str s, .int ((q.tk s).getD 0)])) ⟨G, [], Same.refl _, same_upd hD, hD, upd_same, .nil⟩ (fun i H' _ ⟨Gx, xs, h1, h2, _⟩ => sql ((h1.trans h2) _ _ hB1)) (fun i x G' hx ⟨Gx, xs, sa, sb, hDx, hxs, hd⟩ => ?_) (fun G' ⟨Gx, xs, sa, sb, hDx, hxs, hd⟩ => ?_)
    · obtain ⟨y, hy, rfl⟩ := map_at hx
      have s2 := sa.trans sb
      have hym := (ysm y).mp (List.mem_of_getElem? hy)
      obtain ⟨t, ht2⟩ := Option.isSome_iff_exists.mp hym
      have hv : valV k2 (Sum.inr y) = some (.int t) := by rw [dt.vl y, ht2]; rfl
      have hlx : xs.length ≤ 12 := by have := dpa_len hd; rw [List.length_map, List.length_take] at this; omega
      refine ⟨rfl, _, rfl, _, rfl, a.p, _, dx, _, _, rfl, s2 _ _ (s1 _ _ ob), T.K_WorkQueue, T.na_WorkQueue__ticks, fl_WorkQueue__ticks, _, rfl, a.tt, .int t, rfl, by rw [← hv]; exact DGet.k (k := Sum.inr y) (s2 _ _ (s1 _ _ ht)), (by show 2 ≤ sizeLine; decide), fun t1 ht1 => ?_⟩
      have s3 := same_upd (o := .tup [.str y, .int t]) ht1
      have nt : t1 ≠ D := fun z => by rw [z, hxs] at ht1; cases ht1
      have hx1 : Gx t1 = none := sb.free ht1
      have s4 := same_upd (o := .tup [.str y, .int t]) hx1
      have hD4 : upd Gx t1 (.tup [.str y, .int t]) D = none := by rw [upd_ne nt.symm]; exact hDx
      refine ⟨xs, s3 _ _ hxs, szl (by omega), upd Gx t1 (.tup [.str y, .int t]), xs ++ [.ref t1], sa.trans s4, same_put (same_both sb) hD4, hD4, upd_same, ?_⟩
      rw [take_more hy, List.map_append]
      refine dpa_app (dpa_same s4 _ hd) (.cons (.tup (sqt upd_same) (.cons (.str _) (.cons ?_ .nil))) .nil)
      rw [ht2]
      exact .int t
    · rw [List.length_map, List.take_length] at hd
      refine c ys D G' xs ⟨hp.nodup_iff.mpr (keys_nd dt), srt, ysm⟩ (s1.free hD) (s1.trans (sa.trans sb)) hxs (dpa_same sb _ hd)
end
/-! texts in order -/
def leS (x y : Str) : Prop := x.cps.toList ≤ y.cps.toList
theorem leS_of {x y : Str} (h : Spec.ltCps y.cps.toList x.cps.toList = false) : leS x y := by
  rw [ltCps_eq, decide_eq_false_iff_not] at h
  exact List.not_lt.mp h
theorem leS_trans {x y z : Str} (h : leS x y) (g : leS y z) : leS x z := List.le_trans h g
theorem str_ext2 {a b : Str} (h : a.cps.toList = b.cps.toList) : a = b := by
  cases a; cases b
  simp only [Str.mk.injEq]
  exact Array.toList_inj.mp h
theorem rising_pw : ∀ {l : List Str} {p : Str}, risingS p l = true → (p :: l).Pairwise leS
  | [], p, _ => List.pairwise_singleton _ _
  | x :: r, p, h => by
    unfold risingS at h
    rw [Bool.and_eq_true, Bool.not_eq_true'] at h
    have h1 := leS_of h.1
    have ih := rising_pw (l := r) (p := x) h.2
    refine List.pairwise_cons.mpr ⟨fun y hy => ?_, ih⟩
    rcases List.mem_cons.mp hy with e | hy
    · rw [e]; exact h1
    · exact leS_trans h1 ((List.pairwise_cons.mp ih).1 y hy)
theorem sorted_pw : ∀ {l : List Str}, sortedS l = true → l.Pairwise leS
  | [], _ => .nil
  | _ :: _, h => rising_pw h
theorem pw_uniq {a b : List Str} (h : a.Pairwise leS) (g : b.Pairwise leS) (p : a.Perm b) : a = b :=
  p.eq_of_pairwise (fun x y _ _ h1 h2 => str_ext2 (List.le_antisymm h1 h2)) h g
theorem nd_perm {a b : List Str} (na : a.Nodup) (nb : b.Nodup) (h : ∀ x, x ∈ a ↔ x ∈ b) : a.Perm b := (List.perm_ext_iff_of_nodup na nb).mpr h
theorem ord_uniq {f : Str → Bool} {a b : List Str} (h : Ord f a) (g : Ord f b) : a = b :=
  pw_uniq (sorted_pw h.2.1) (sorted_pw g.2.1) (nd_perm h.1 g.1 fun x => by rw [h.2.2, g.2.2])
/-! isinstance, where it is so: no `__class__` is asked for then, so that the instance may have a dict -/
section
open PySem.W
variable {prog : Program} {w : World} {A : Around} {E : Value → Shared → Prop} {s : Shared} {K : PySem.W.Frag} {x D C : Addr} {ox : Obj} {od : Option Obj}
theorem isi_yes {Q : Value → Shared → Prop} (X : K.In s.heap) (J : InstAt s.heap x ox D od) (e : kitOne K (.ref D) (.ref C) = some true) (h : Q (.bool true) s) :
    wpAny (model prog w) A (call (.builtin "isinstance") [.ref x, .ref C]) Q E s := by
  have hT := J.type (M := model prog w)
  refine call_isinstance_of (c := .ref C) ?_ (by intro z; cases z)
  unfold Builtin.«isinstance.nested»; refine wpAny_bind (hT.at ?_)
  unfold kitOne at e
  by_cases hq : (Value.ref D == Value.ref C) = true
  · rw [if_pos hq]; (repeat (first | refine wpAny_pure ?_ | refine wpAny_rule ?_ | refine wpAny_bind ?_)); exact h
  · rw [if_neg hq] at e ⊢
    obtain ⟨k1, k2, k3⟩ := kit_cls (M := model prog w) X e
    have hI : Looks (model prog w) s.heap (isInstance (.ref x) (.ref C)) true := hT.andThen k3
    refine wpAny_bind (k1.at ?_)
    rw [if_pos (by decide : (Value.type "type" == Value.type "type") = true)]; k_delta "plainIsInstance"; refine wpAny_bind (wpAny_bind (k2.at ?_))
    refine (?_ : wpAny _ _ (if (!true) = true then _ else _) _ _ _)
    rw [if_neg (by decide)]; refine wpAny_bind (hI.at ?_)
    rw [if_pos rfl]
    exact wpAny_pure (wpAny_pure h)
end
section
variable {X : Cx}
/-- isinstance(e, C), e the caught exception, an instance of C with a dict -/
def rIsEd (K : PySem.W.Frag) (a : Addr) (cls : Value) (d : Option Addr) (D : Addr) : List V → Hp → VK → Prop := fun xs H Q => cls = .ref D ∧ ∃ (dd C : Addr) (fs : List (Str × V)), d = some dd ∧ H dd = some (.xd fs) ∧ xs = [.ref a, .ref C] ∧ PySem.W.kitOne K (.ref D) (.ref C) = some true ∧ Q (.bl true) H
theorem call_isEd {a D : Addr} {oe : Obj} {cls : Value} {d : Option Addr} {pn : List (Addr × Obj)} (hz : Zc cls d oe) (hf : ∃ vs, oe.data = .fields vs) :
    CallR (X.suite a ((a, oe) :: pn)) (.builtin "isinstance") (rIsEd X.K a cls d D) := by
  intro pins s σ H xs us Q I r ⟨e1, dd, C, fs, e2, hd, e3, hk, q⟩
  subst e1; subst e2; subst e3
  obtain ⟨u1, u2, rfl, r1, r2⟩ := vals2 r
  obtain rfl : u1 = Value.ref a := r1
  obtain rfl : u2 = Value.ref C := r2
  have pin := (I.pin (a, oe) (List.mem_append_left _ List.mem_cons_self)).1
  obtain ⟨vs, hv⟩ := hf
  have hx : ObjOk X.prog X.w H s.heap dd (.xd fs) := I.hok dd _ hd
  obtain ⟨mA, hns, _⟩ := hx
  obtain ⟨od, ho, _⟩ := lookIn_ns hns
  have J : PySem.W.InstAt s.heap a oe D (some od) := ⟨pin, hz.1, by unfold PySem.W.notCls; rw [hv] <;> rfl, by rw [hz.2]; exact ho⟩
  exact isi_yes I.kIn J hk ⟨.bl true, H, I, rfl, q⟩
end
section
variable {X : Cx} {CX : CXT} {k : Nat} {f C : Addr} {fd : FuncData} {ps : List Str} {sp : Sp} {E : L2.St → XK} {m : Str} {pos apos : Pos} {e o : Expr} {es : List Expr} {ta : TE} {t : TA}
def tMethE (C : Addr) (m : Str) (sp : Sp) (E : L2.St → XK) (ta : TE) (t : TA) : TE := fun σ H Q => tMeth C m sp [] (E σ) ta t σ H Q
theorem pe_methS {pl : Sem Bool} (he : PE X o ta) (c : Cls X.K C) (hm : Meth X.K C m f) (F : FnOk X.prog X.w X.K X.mg X.base CX k f fd ps sp) (hr : Room k X.A) (hb : Binds X.K fd ps []) (hx : ∀ σ, PassesAt CX X σ (E σ)) (ha : PA X (e :: es) t)
    (hst : starEach (e :: es) X.env = (false, eval e X.env) :: starEach es X.env := by rfl) (hpl : (backTo pos (starEach es X.env)).any (·.1) = false := by rfl)
    (ht : eval (.Call (.Attribute o m apos) (e :: es) [] pos) X.env = (eval o X.env >>= fun ov => standAt apos.atName >>= fun _ => holding [ov] (getMethod ov m pl) >>= fun fm =>
      callWith pos fm.1 fm.2 (backTo pos (starEach (e :: es) X.env)) (backToKw pos (keywordEach [] X.env))) := by rfl) : PE X (.Call (.Attribute o m apos) (e :: es) [] pos) (tMethE C m sp E ta t) :=
  ⟨fun pins s σ H Q I h => PySem.W.methodCall_KW (pl := pl) (thn (he.run pins s σ H _ I h) fun u s1 ⟨x, H1, I1, rx, a, dx, fs, ex, ea, l, q⟩ => by
    subst ex
    obtain rfl : u = Value.ref a := rx
    exact getmeth_ok I1 ea c hm l (PySem.W.callWith_K (first := [.ref a]) (h₀ := X.base) I.ok.mod.kin hm.kp (thn (ha.run pos pins s1 σ H1 _ I1 q) fun us s2 ⟨vs, H2, I2, r, q2⟩ =>
      ⟨I2.kIn, run_fnS (us := .ref a :: us) (vs := .ref a :: vs) F hr hb (hx σ) I2 (.cons rfl r) (by have : sp (V.ref a :: (vs ++ [])) H2 Q (E σ) := q2; rwa [List.append_nil] at this)⟩) hst hpl)) ht⟩
end
theorem setF_same {α : Type} (f : Str → Option α) (k : Str) (v : α) : setF f k v k = some v := if_pos rfl
theorem wk_in {U : List Str} {C : Addr} {H : Hp} {most : Int} {a : WP} {q : WQ} (h : WQAt U C H most a q) {k : Str} (hk : (q.wk k).isSome = true) : k ∈ U := by
  obtain ⟨k1, _, dk⟩ := h.hk
  exact keys_in dk k ((key_iff dk k).mpr hk)
def sp_ntinit (C : Addr) : Sp := fun vs H Q _ => ∃ (x : Addr) (v : V), vs = [.ref x, v] ∧ H x = some (exo x C none) ∧ ∀ dx, H dx = none → dx ≠ x → Q .non (upd (upd H dx (exd dx [("key", v)])) x (exo x C (some dx)))
/-- how such a report is refused -/
def Refuses (cN : Addr) (k : Str) (H : Hp) (E : XK) : Prop := ∀ d, H d = none → E (.ref cN) (some d) (upd H d (.xd [("key", .str k)]))
def sp_wqleave (C cN : Addr) : Sp := fun vs H Q E => ∃ (U : List Str) (a : WP) (most : Int) (q : WQ) (k : Str), vs = [.ref a.p, .str k] ∧ WQAt U C H most a q ∧ ((q.wk k = none ∧ Refuses cN k H E) ∨ ∃ b, q.wk k = some b ∧ ∀ H', WQAt U C H' most a (q.left k) → Fr a.all H H' → Q (.bl b) H')
def sp_wqfin (C cN : Addr) : Sp := fun vs H Q E => ∃ (U : List Str) (a : WP) (most : Int) (q : WQ) (k : Str), vs = [.ref a.p, .str k] ∧ WQAt U C H most a q ∧ ((q.wk k = none ∧ Refuses cN k H E) ∨ ∃ b, q.wk k = some b ∧ ∀ H', WQAt U C H' most a (q.fin k) → Fr a.all H H' → Q .non H')
def sp_wqbad (C cN : Addr) : Sp := fun vs H Q E => ∃ (U : List Str) (a : WP) (most : Int) (q : WQ) (k : Str), vs = [.ref a.p, .str k] ∧ WQAt U C H most a q ∧ ((q.wk k = none ∧ Refuses cN k H E) ∨ ∃ b, q.wk k = some b ∧ (∀ x n, q.fl x = some n → 1 ≤ n) ∧ 1 ≤ most ∧ most ≤ 64 ∧ ∀ H', WQAt U C H' most a (q.bad most k) → Fr a.all H H' → Q .non H')
section
variable {P : Program} {w : World} {K : PySem.W.Frag} {mg : Str → Option Value} {base : Heap}
theorem ok_NotTaken___init__ (T : TX K mg) : FnOk P w K mg base CX0 1 T.a_NotTaken___init__ T.d_NotTaken___init__ ["self", "key"] (sp_ntinit T.a_NotTaken) := by
  refine T.F_NotTaken___init__.ok sc_NotTaken___init__ (fun vs H Q E h => ?_) (fun cdv A outer s H vs Q E hr h => ?_)
  · obtain ⟨x, v, rfl, _⟩ := h
    rfl
  · obtain ⟨x, v, rfl, hx, c⟩ := h
    refine ⟨_, (pss_one (ps_ost (pv 0) (pv 1))), ?_⟩
    exact ⟨_, rfl, _, rfl, x, T.a_NotTaken, rfl, T.O_NotTaken, T.na_NotTaken_key, .inl ⟨hx, fun dx h1 h2 => c dx h1 h2⟩⟩
theorem ok_WorkQueue__leave (T : TX K mg) : FnOk P w K mg base (L2.CX P w) 3 T.a_WorkQueue__leave T.d_WorkQueue__leave ["self", "key"] (sp_wqleave T.a_WorkQueue T.a_NotTaken) := by
  refine T.F_WorkQueue__leave.okX sc_WorkQueue__leave (fun vs H Q E h => ?_) (fun cdv A outer s H vs Q E hr h => ?_)
  · obtain ⟨U, a, most, q, k, rfl, _⟩ := h
    rfl
  · obtain ⟨U, a, most, q, k, rfl, hW, c⟩ := h
    refine ⟨_, (pss_cons (ps_if (pt_cmp (pc_dnotin (hu_of hr) (pv 1) (pe_fld (pv 0) rfl))) (pss_one (ps_raise rfl (takes_of rfl rfl rfl rfl) (pmk_oex T.O_NotTaken T.iI_NotTaken T.tI_NotTaken (ok_NotTaken___init__ T) (hr.mono (by decide)) T.b_NotTaken___init__ .nil pass0 (by rfl) T.g_NotTaken (pa_cons (pv 1) pa_nil)))) pss_nil)
      (pss_one (ps_ret (pe_dpop1 (pe_fld (pv 0) rfl) (pv 1) ⟨rfl, rfl, rfl, rfl⟩)))), ?_⟩
    have ap := hW.apart
    obtain ⟨⟨dx, ob⟩, hw, ⟨k1, hk, dk⟩, ⟨k2, ht, dt⟩, ⟨k3, hf, df⟩, hkt, hkf, htf, wU, wn, u12⟩ := hW
    have hv : valV k1 (Sum.inr k) = (q.wk k).map V.bl := dk.vl k
    refine ⟨_, rfl, _, rfl, a.p, _, dx, _, _, rfl, ob, T.K_WorkQueue, T.na_WorkQueue__working, fl_WorkQueue__working, a.ak, _, rfl, DGet.k (k := Sum.inr k) hk, _, rfl, ?_⟩
    rcases c with ⟨hb, c⟩ | ⟨b, hb, c⟩
    · refine ifbt (by rw [hv, hb]; rfl) ?_
      refine ⟨_, rfl, (by show 1 ≤ 1000; decide), fun x hx => ⟨x, .str k, rfl, upd_same, fun dy hdy ndy => ⟨rfl, dy, [("key", .str k)], upd_same, by rw [upd_ne ndy, upd_same], ?_, ?_⟩⟩⟩
      · rw [upd_ne ndy] at hdy
        exact hdy
      · rw [upd_ne ndy] at hdy
        have e : upd (del (upd (upd (upd H x (exo x T.a_NotTaken none)) dy (exd dy [("key", .str k)])) x (exo x T.a_NotTaken (some dy))) x) dy (.xd [("key", .str k)]) = upd H dy (.xd [("key", .str k)]) := by
          funext z
          by_cases e1 : z = dy
          · rw [e1, upd_same, upd_same]
          · rw [upd_ne e1, upd_ne e1]
            by_cases e2 : z = x
            · rw [e2, del_same, hx]
            · rw [del_ne e2, upd_ne e2, upd_ne e1, upd_ne e2]
        rw [e]
        exact c dy hdy
    · have hv2 : valV k1 (Sum.inr k) = some (.bl b) := by rw [hv, hb]; rfl
      refine ifbf (by rw [hv2]; rfl) ?_
      refine ⟨_, rfl, a.p, _, dx, _, _, rfl, ob, T.K_WorkQueue, T.na_WorkQueue__working, fl_WorkQueue__working, a.ak, rfl, .inl ⟨_, .inl hk⟩, _, rfl, k1, Sum.inr k, _, hk, rfl, hv2, ?_⟩
      exact c _ ⟨⟨dx, by rw [upd_ne ap.pk]; exact ob⟩, by rw [upd_ne ap.wk]; exact hw, ⟨_, upd_same, ds_drop dk k⟩, ⟨_, by rw [upd_ne hkt.symm]; exact ht, dt⟩, ⟨_, by rw [upd_ne hkf.symm]; exact hf, df⟩, hkt, hkf, htf, wU, wn, u12⟩ ((Fr.refl _ _).up (by simp [WP.all]))
theorem ok_WorkQueue_finish (T : TX K mg) : FnOk P w K mg base (L2.CX P w) 4 T.a_WorkQueue_finish T.d_WorkQueue_finish ["self", "key"] (sp_wqfin T.a_WorkQueue T.a_NotTaken) := by
  refine T.F_WorkQueue_finish.okX sc_WorkQueue_finish (fun vs H Q E h => ?_) (fun cdv A outer s H vs Q E hr h => ?_)
  · obtain ⟨U, a, most, q, k, rfl, _⟩ := h
    rfl
  · obtain ⟨U, a, most, q, k, rfl, hW, c⟩ := h
    refine ⟨_, (pss_cons (ps_set (i := 2) sc_WorkQueue_finish.nd rfl (Or.inl rfl) (pe_meth (pv 0) T.K_WorkQueue T.m_WorkQueue__leave (ok_WorkQueue__leave T) (hr.mono (by decide)) T.b_WorkQueue__leave .nil (passes_call (takes_of rfl rfl rfl rfl) (fun _ _ _ _ h => h)) (pa_cons (pv 1) pa_nil)))
      (pss_cons (ps_expr (pe_dpop2 (pe_fld (pv 0) rfl) (pv 1) pe_non ⟨rfl, rfl, rfl, rfl⟩))
      (pss_one (ps_if (pt_truth (pv 2) (by intro _; rfl)) (pss_one (ps_expr (pe_meth (pv 0) T.K_WorkQueue T.m_WorkQueue_add (ok_WorkQueue_add T) (hr.mono (by decide)) T.b_WorkQueue_add .nil pass0 (pa_cons (pv 1) pa_nil)))) pss_nil)))), ?_⟩
    obtain ⟨dx, ob⟩ := hW.ob
    refine ⟨_, rfl, a.p, dx, _, rfl, ob, fl_WorkQueue_no__leave, _, rfl, U, a, most, q, k, rfl, hW, ?_⟩
    rcases c with ⟨hb, cR⟩ | ⟨b, hb, c⟩
    · exact .inl ⟨hb, cR⟩
    have hU := wk_in hW (k := k) (by rw [hb]; rfl)
    refine .inr ⟨b, hb, fun H1 hW1 fr1 => ?_⟩
    have ap := hW1.apart
    obtain ⟨⟨dx, ob⟩, hw, ⟨k1, hk, dk⟩, ⟨k2, ht, dt⟩, ⟨k3, hf, df⟩, hkt, hkf, htf, wU, wn, u12⟩ := hW1
    have hv : valV k3 (Sum.inr k) = (q.fl k).map V.int := df.vl k
    have go : ∀ G, WQAt U T.a_WorkQueue G most a { q.left k with fl := unsF q.fl k } → Fr a.all H G → ∀ (Q2 : Prop), (b = true → ∀ G', WQAt U T.a_WorkQueue G' most a (q.fin k) → Fr a.all G G' → Q .non G') ∧ (b = false → Q .non G) := fun G hG fG Q2 => by
      refine ⟨fun _ G' h1 h2 => c G' h1 (fG.trans h2), fun e => c G ?_ fG⟩
      unfold WQ.fin
      rw [if_neg (by rw [hb, e]; simp)]
      exact hG
    refine ⟨_, rfl, a.p, _, dx, _, _, rfl, ob, T.K_WorkQueue, T.na_WorkQueue__failures, fl_WorkQueue__failures, a.ff, rfl, .inl ⟨_, .inl hf⟩, _, rfl, k3, Sum.inr k, hf, rfl, fun v hv' => ?_, fun hv' => ?_⟩
    · have hG : WQAt U T.a_WorkQueue (upd H1 a.ff (.dK (dropK k3 (Sum.inr k)))) most a { q.left k with fl := unsF q.fl k } :=
        ⟨⟨dx, by rw [upd_ne ap.pf]; exact ob⟩, by rw [upd_ne ap.wf]; exact hw, ⟨_, by rw [upd_ne hkf]; exact hk, dk⟩, ⟨_, by rw [upd_ne htf]; exact ht, dt⟩, ⟨_, upd_same, ds_drop df k⟩, hkt, hkf, htf, wU, wn, u12⟩
      have fG : Fr a.all H (upd H1 a.ff (.dK (dropK k3 (Sum.inr k)))) := fr1.up (by simp [WP.all])
      generalize upd H1 a.ff (.dK (dropK k3 (Sum.inr k))) = G at hG fG
      obtain ⟨g1, g2⟩ := go G hG fG True
      obtain ⟨dx2, ob2⟩ := hG.ob
      refine ⟨_, rfl, b, rfl, ifb2 (fun hb2 => ?_) (fun hb2 => ?_)⟩
      · refine ⟨_, rfl, a.p, dx2, _, rfl, ob2, fl_WorkQueue_no_add, _, rfl, U, a, most, _, k, rfl, hG, hU, fun H2 h2 f2 => g1 hb2 H2 ?_ f2⟩
        unfold WQ.fin
        rw [if_pos (by rw [hb, hb2])]
        exact h2
      · exact g2 hb2
    · have fn : q.fl k = none := by rw [hv] at hv'; cases e : q.fl k with | none => rfl | some _ => rw [e] at hv'; cases hv'
      have e2 : unsF q.fl k = q.fl := by funext s; unfold unsF; split <;> simp_all
      have hG : WQAt U T.a_WorkQueue H1 most a { q.left k with fl := unsF q.fl k } := by
        rw [e2]
        exact ⟨⟨dx, ob⟩, hw, ⟨_, hk, dk⟩, ⟨_, ht, dt⟩, ⟨_, hf, df⟩, hkt, hkf, htf, wU, wn, u12⟩
      obtain ⟨g1, g2⟩ := go H1 hG fr1 True
      refine ⟨_, rfl, b, rfl, ifb2 (fun hb2 => ?_) (fun hb2 => ?_)⟩
      · refine ⟨_, rfl, a.p, dx, _, rfl, ob, fl_WorkQueue_no_add, _, rfl, U, a, most, _, k, rfl, hG, hU, fun H2 h2 f2 => g1 hb2 H2 ?_ f2⟩
        unfold WQ.fin
        rw [if_pos (by rw [hb, hb2])]
        exact h2
      · exact g2 hb2
theorem ok_WorkQueue_fail (T : TX K mg) : FnOk P w K mg base (L2.CX P w) 4 T.a_WorkQueue_fail T.d_WorkQueue_fail ["self", "key"] (sp_wqbad T.a_WorkQueue T.a_NotTaken) := by
  refine T.F_WorkQueue_fail.okX sc_WorkQueue_fail (fun vs H Q E h => ?_) (fun cdv A outer s H vs Q E hr h => ?_)
  · obtain ⟨U, a, most, q, k, rfl, _⟩ := h
    rfl
  · obtain ⟨U, a, most, q, k, rfl, hW, c⟩ := h
    refine ⟨_, (pss_cons (ps_set (i := 2) sc_WorkQueue_fail.nd rfl (Or.inl rfl) (pe_meth (pv 0) T.K_WorkQueue T.m_WorkQueue__leave (ok_WorkQueue__leave T) (hr.mono (by decide)) T.b_WorkQueue__leave .nil (passes_call (takes_of rfl rfl rfl rfl) (fun _ _ _ _ h => h)) (pa_cons (pv 1) pa_nil)))
      (pss_cons (ps_dput (hu_of hr) (pe_fld (pv 0) rfl) (pv 1) (pe_op op_add (pe_meth (pv 0) T.K_WorkQueue T.m_WorkQueue_failures (ok_WorkQueue_failures T) (hr.mono (by decide)) T.b_WorkQueue_failures .nil pass0 (pa_cons (pv 1) pa_nil)) pe_int) rfl)
      (pss_one (ps_if (pt_truth (pv 2) (by intro _; rfl)) (pss_one (ps_expr (pe_meth (pv 0) T.K_WorkQueue T.m_WorkQueue_add (ok_WorkQueue_add T) (hr.mono (by decide)) T.b_WorkQueue_add .nil pass0 (pa_cons (pv 1) pa_nil)))) (pss_one (ps_expr (pe_meth (pv 0) T.K_WorkQueue T.m_WorkQueue_add_later (ok_WorkQueue_add_later T) (hr.mono (by decide)) T.b_WorkQueue_add_later .nil pass0 (pa_cons (pv 1) (pa_cons (pe_meth (pv 0) T.K_WorkQueue T.m_WorkQueue__delay (ok_WorkQueue__delay T) (hr.mono (by decide)) T.b_WorkQueue__delay .nil pass0 (pa_cons (pv 1) pa_nil)) pa_nil))))))))), ?_⟩
    obtain ⟨dx, ob⟩ := hW.ob
    refine ⟨_, rfl, a.p, dx, _, rfl, ob, fl_WorkQueue_no__leave, _, rfl, U, a, most, q, k, rfl, hW, ?_⟩
    rcases c with ⟨hb, cR⟩ | ⟨b, hb, hfl, m1, m2, c⟩
    · exact .inl ⟨hb, cR⟩
    have hU := wk_in hW (k := k) (by rw [hb]; rfl)
    refine .inr ⟨b, hb, fun H1 hW1 fr1 => ?_⟩
    have hW1' := hW1
    have ap := hW1.apart
    obtain ⟨⟨dx, ob⟩, hw, ⟨k1, hk, dk⟩, ⟨k2, ht, dt⟩, ⟨k3, hf, df⟩, hkt, hkf, htf, wU, wn, u12⟩ := hW1
    have l3 := ds_len df
    refine ⟨_, rfl, a.p, dx, _, rfl, ob, fl_WorkQueue_no_failures, _, rfl, U, a, most, _, k, rfl, hW1', _, _, rfl, rfl, ?_⟩
    refine ⟨_, rfl, a.p, _, dx, _, _, rfl, ob, T.K_WorkQueue, T.na_WorkQueue__failures, fl_WorkQueue__failures, _, rfl, a.ff, _, rfl, DPut.k (k := Sum.inr k) hf (szl (by omega)), ?_⟩
    have n0 : 1 ≤ (q.fl k).getD 0 + 1 := by
      cases e : q.fl k with
      | none => decide
      | some n => have := hfl k n e; simp only [Option.getD_some]; omega
    have hG : WQAt U T.a_WorkQueue (upd H1 a.ff (.dK (putK k3 (Sum.inr k) (.int ((q.fl k).getD 0 + 1))))) most a { q.left k with fl := setF q.fl k ((q.fl k).getD 0 + 1) } :=
      ⟨⟨dx, by rw [upd_ne ap.pf]; exact ob⟩, by rw [upd_ne ap.wf]; exact hw, ⟨_, by rw [upd_ne hkf]; exact hk, dk⟩, ⟨_, by rw [upd_ne htf]; exact ht, dt⟩, ⟨_, upd_same, ds_put df hU _⟩, hkt, hkf, htf, wU, wn, u12⟩
    have fG : Fr a.all H (upd H1 a.ff (.dK (putK k3 (Sum.inr k) (.int ((q.fl k).getD 0 + 1))))) := fr1.up (by simp [WP.all])
    obtain ⟨dx2, ob2⟩ := hG.ob
    refine ⟨_, rfl, b, rfl, ifb2 (fun hb2 => ?_) (fun hb2 => ?_)⟩
    · refine ⟨_, rfl, a.p, dx2, _, rfl, ob2, fl_WorkQueue_no_add, _, rfl, U, a, most, _, k, rfl, hG, hU, fun H2 h2 f2 => c H2 ?_ (fG.trans f2)⟩
      unfold WQ.bad
      rw [if_pos (by rw [hb, hb2])]
      exact h2
    · refine ⟨_, rfl, a.p, dx2, _, rfl, ob2, fl_WorkQueue_no_add_later, _, rfl, _, rfl, a.p, dx2, _, rfl, ob2, fl_WorkQueue_no__delay, _, rfl, U, a, most, _, k, _, rfl, hG, setF_same _ _ _, n0, m1, m2, U, a, most, _, k, _, rfl, hG, hU, fun H2 h2 f2 => c H2 ?_ (fG.trans f2)⟩
      unfold WQ.bad
      rw [if_neg (by rw [hb, hb2]; simp)]
      exact h2
end
/-! the law's own lists and dicts: they carry the same mirror as the queue -/
structure MP where
  w : Addr
  k : Addr
  g : Addr
  t : Addr
  f : Addr
def MP.all (m : MP) : List Addr := [m.w, m.k, m.g, m.t, m.f]
structure MAt (U : List Str) (H : Hp) (m : MP) (q : WQ) (wk ag : List Str) : Prop where
  hw : H m.w = some (.lst (q.w.map V.str))
  hk : H m.k = some (.lst (wk.map V.str))
  hg : H m.g = some (.lst (ag.map V.str))
  ht : DAt U V.int H m.t q.tk
  hf : DAt U V.int H m.f q.fl
  n1 : m.w ≠ m.k
  n2 : m.w ≠ m.g
  n3 : m.k ≠ m.g
  n4 : m.t ≠ m.f
  wU : ∀ x ∈ q.w, x ∈ U
  wn : q.w.Nodup
  k1 : ∀ x, x ∈ wk ↔ (q.wk x).isSome = true
  kU : ∀ x ∈ wk, x ∈ U
  kn : wk.Nodup
  g1 : ∀ x, x ∈ ag ↔ q.wk x = some true
  gn : ag.Nodup
  U12 : U.length ≤ 12
section
variable {U : List Str} {H H' : Hp} {m : MP} {q : WQ} {wk ag : List Str}
theorem MAt.same (h : MAt U H m q wk ag) (s : Same H H') : MAt U H' m q wk ag :=
  ⟨s _ _ h.hw, s _ _ h.hk, s _ _ h.hg, h.ht.same s, h.hf.same s, h.n1, h.n2, h.n3, h.n4, h.wU, h.wn, h.k1, h.kU, h.kn, h.g1, h.gn, h.U12⟩
theorem MAt.frame {L : List Addr} (h : MAt U H m q wk ag) (s : Fr L H H') (n : ∀ x ∈ m.all, x ∉ L) : MAt U H' m q wk ag :=
  ⟨s _ _ h.hw (n _ (by simp [MP.all])), s _ _ h.hk (n _ (by simp [MP.all])), s _ _ h.hg (n _ (by simp [MP.all])), h.ht.frame s (n _ (by simp [MP.all])), h.hf.frame s (n _ (by simp [MP.all])), h.n1, h.n2, h.n3, h.n4, h.wU, h.wn, h.k1, h.kU, h.kn, h.g1, h.gn, h.U12⟩
theorem MAt.wl (h : MAt U H m q wk ag) : q.w.length ≤ 12 := Nat.le_trans (nd_len h.wn h.wU) h.U12
theorem MAt.kl (h : MAt U H m q wk ag) : wk.length ≤ 12 := Nat.le_trans (nd_len h.kn h.kU) h.U12
theorem MAt.gU (h : MAt U H m q wk ag) : ∀ x ∈ ag, x ∈ U := fun x hx => h.kU x ((h.k1 x).mpr (by rw [(h.g1 x).mp hx]; rfl))
theorem MAt.gl (h : MAt U H m q wk ag) : ag.length ≤ 12 := Nat.le_trans (nd_len h.gn h.gU) h.U12
theorem MAt.ap (h : MAt U H m q wk ag) : m.w ≠ m.t ∧ m.w ≠ m.f ∧ m.k ≠ m.t ∧ m.k ≠ m.f ∧ m.g ≠ m.t ∧ m.g ≠ m.f := by
  obtain ⟨k2, ht, _⟩ := h.ht
  obtain ⟨k3, hf, _⟩ := h.hf
  exact ⟨ne_of h.hw ht (by intro z; cases z), ne_of h.hw hf (by intro z; cases z), ne_of h.hk ht (by intro z; cases z), ne_of h.hk hf (by intro z; cases z), ne_of h.hg ht (by intro z; cases z), ne_of h.hg hf (by intro z; cases z)⟩
end
def gAdd (ag : List Str) (q : WQ) (k : Str) : List Str := if (q.wk k).isSome = true ∧ k ∉ ag then ag ++ [k] else ag
def sp_madd : Sp := fun vs H Q _ => ∃ (U : List Str) (m : MP) (q : WQ) (wk ag : List Str) (k : Str), vs = [.ref m.w, .ref m.k, .ref m.g, .ref m.t, .str k] ∧ MAt U H m q wk ag ∧ k ∈ U ∧ ∀ H' ag', MAt U H' m (q.add k) wk ag' → Fr m.all H H' → Q .non H'
def sp_mlater : Sp := fun vs H Q _ => ∃ (U : List Str) (m : MP) (q : WQ) (wk ag : List Str) (k : Str) (t : Int), vs = [.ref m.w, .ref m.k, .ref m.g, .ref m.t, .str k, .int t] ∧ MAt U H m q wk ag ∧ k ∈ U ∧ ∀ H' ag', MAt U H' m (q.later k t) wk ag' → Fr m.all H H' → Q .non H'
section
variable {P : Program} {w : World} {K : PySem.W.Frag} {mg : Str → Option Value} {base : Heap}
theorem ok__law_add (T : TX K mg) : FnOk P w K mg base CX0 1 T.a__law_add T.d__law_add ["waiting", "work", "again", "delayed", "key"] sp_madd := by
  refine T.F__law_add.ok sc__law_add (fun vs H Q E h => ?_) (fun cdv A outer s H vs Q E hr h => ?_)
  · obtain ⟨U, m, q, wk, ag, k, rfl, _⟩ := h
    rfl
  · obtain ⟨U, m, q, wk, ag, k, rfl, hM, hU, c⟩ := h
    refine ⟨_, (pss_one (ps_if (pt_cmpR op_in_seq (pv 4) (pv 1) rfl) (pss_one (ps_if (pt_cmpR op_notIn_seq (pv 4) (pv 2) rfl) (pss_one (ps_expr (pe_bm PySem.F.plainAttrs_list PySem.F.slot_list_append PySem.F.type_list_append mt_append (pv 2) (pa_cons (pv 4) pa_nil)))) pss_nil)) (pss_one (ps_if (pt_cmpR op_notIn_seq (pv 4) (pv 0) rfl) (pss_cons (ps_expr (pe_dpop2 (pv 3) (pv 4) pe_int ⟨rfl, rfl, rfl, rfl⟩))
          (pss_one (ps_expr (pe_bm PySem.F.plainAttrs_list PySem.F.slot_list_append PySem.F.type_list_append mt_append (pv 0) (pa_cons (pv 4) pa_nil))))) pss_nil)))), ?_⟩
    obtain ⟨a1, a2, a3, a4, a5, a6⟩ := hM.ap
    refine ⟨_, rfl, _, rfl, m.k, _, rfl, .inl (sql hM.hk), rfl, flat_strs _, _, rfl, ?_⟩
    rw [inV_str]
    refine ifd (fun h1 => ?_) (fun h1 => ?_)
    · have h1' := (hM.k1 k).mp h1
      refine ⟨_, rfl, _, rfl, m.g, _, rfl, .inl (sql hM.hg), rfl, flat_strs _, _, rfl, ?_⟩
      rw [inV_str]
      refine ifn (fun h2 => ?_) (fun h2 => ?_)
      · refine ⟨_, rfl, .inl ⟨rfl, _, sql hM.hg⟩, _, rfl, m.g, _, _, rfl, rfl, hM.hg, szl (by rw [List.length_map]; have := hM.gl; omega), ?_⟩
        have hb : ∃ b, q.wk k = some b := Option.isSome_iff_exists.mp h1'
        refine c _ (ag ++ [k]) ?_ ((Fr.refl _ _).up (by simp [MP.all]))
        unfold WQ.add
        rw [if_pos h1']
        refine ⟨by rw [upd_ne hM.n2]; exact hM.hw, by rw [upd_ne hM.n3]; exact hM.hk, by rw [upd_same, List.map_append]; rfl, ?_, ?_, hM.n1, hM.n2, hM.n3, hM.n4, hM.wU, hM.wn, fun x => ?_, hM.kU, hM.kn, fun x => ?_, ?_, hM.U12⟩
        · exact hM.ht.frame ((Fr.refl [m.g] _).up (by simp)) (by simp [a5.symm])
        · exact hM.hf.frame ((Fr.refl [m.g] _).up (by simp)) (by simp [a6.symm])
        · rw [hM.k1]
          show _ ↔ (setF q.wk k true x).isSome = true
          unfold setF
          split
          · next e => rw [e]; simp [h1']
          · rfl
        · show _ ↔ setF q.wk k true x = some true
          unfold setF
          by_cases e : x = k
          · simp [e]
          · rw [if_neg e, ← hM.g1]; simp [e]
        · exact List.nodup_append.mpr ⟨hM.gn, by simp, fun x hx y hy z => h2 (by rw [List.mem_singleton] at hy; rw [← hy, ← z]; exact hx)⟩
      · refine c _ ag ?_ (Fr.refl _ _)
        unfold WQ.add
        rw [if_pos h1']
        have e : setF q.wk k true = q.wk := by
          funext x; unfold setF; split
          · next e => rw [e]; exact ((hM.g1 k).mp h2).symm
          · rfl
        rw [e]
        exact hM
    · have h1' : ¬ (q.wk k).isSome = true := fun z => h1 ((hM.k1 k).mpr z)
      refine ⟨_, rfl, _, rfl, m.w, _, rfl, .inl (sql hM.hw), rfl, flat_strs _, _, rfl, ?_⟩
      rw [inV_str]
      refine ifn (fun h2 => ?_) (fun h2 => ?_)
      · obtain ⟨k2, ht, dt⟩ := hM.ht
        have go : ∀ G, Fr m.all H G → DAt U V.int G m.t (unsF q.tk k) → (∀ x ∈ [m.w, m.k, m.g, m.f], ∀ o, H x = some o → G x = some o) → G m.w = some (.lst (q.w.map V.str)) ∧ (MAt U (upd G m.w (.lst (q.w.map V.str ++ [.str k]))) m (q.add k) wk ag ∧ Fr m.all H (upd G m.w (.lst (q.w.map V.str ++ [.str k])))) := fun G fG hT hk => by
          have ea : q.add k = { q with w := q.w ++ [k], tk := unsF q.tk k } := by unfold WQ.add; rw [if_neg h1', if_neg h2]
          refine ⟨hk _ (by simp) _ hM.hw, ?_, fG.up (by simp [MP.all])⟩
          rw [ea]
          refine ⟨by rw [upd_same, List.map_append]; rfl, by rw [upd_ne hM.n1.symm]; exact hk _ (by simp) _ hM.hk, by rw [upd_ne hM.n2.symm]; exact hk _ (by simp) _ hM.hg, hT.frame ((Fr.refl [m.w] _).up (by simp)) (by simp [a1.symm]), ?_, hM.n1, hM.n2, hM.n3, hM.n4, ?_, ?_, hM.k1, hM.kU, hM.kn, hM.g1, hM.gn, hM.U12⟩
          · obtain ⟨k3, hf, df⟩ := hM.hf
            exact ⟨k3, by rw [upd_ne a2.symm]; exact hk _ (by simp) _ hf, df⟩
          · exact fun x hx => (List.mem_append.mp hx).elim (hM.wU x) fun e => by rw [List.mem_singleton] at e; rw [e]; exact hU
          · exact List.nodup_append.mpr ⟨hM.wn, by simp, fun x hx y hy z => h2 (by rw [List.mem_singleton] at hy; rw [← hy, ← z]; exact hx)⟩
        have lw := hM.wl
        refine ⟨_, rfl, m.t, rfl, .inl ⟨_, .inl ht⟩, _, rfl, k2, Sum.inr k, ht, rfl, fun v hv => ?_, fun hv => ?_⟩
        · obtain ⟨ew, g1, g2⟩ := go (upd H m.t (.dK (dropK k2 (Sum.inr k)))) ((Fr.refl _ _).up (by simp [MP.all])) ⟨_, upd_same, ds_drop dt k⟩ (fun x hx o e => by
            rw [upd_ne]
            · exact e
            · simp only [List.mem_cons, List.not_mem_nil, or_false] at hx
              rcases hx with rfl | rfl | rfl | rfl
              · exact a1
              · exact a3
              · exact a5
              · exact hM.n4.symm)
          exact ⟨_, rfl, .inl ⟨rfl, _, sql ew⟩, _, rfl, m.w, _, _, rfl, rfl, ew, szl (by rw [List.length_map]; omega), c _ ag g1 g2⟩
        · have fn : q.tk k = none := by
            have := dt.vl k
            rw [this] at hv
            cases e : q.tk k with
            | none => rfl
            | some _ => rw [e] at hv; cases hv
          have e2 : unsF q.tk k = q.tk := by
            funext s; unfold unsF; split
            · next e => rw [e, fn]
            · rfl
          obtain ⟨ew, g1, g2⟩ := go H (Fr.refl _ _) (by rw [e2]; exact ⟨k2, ht, dt⟩) (fun x hx o e => e)
          exact ⟨_, rfl, .inl ⟨rfl, _, sql ew⟩, _, rfl, m.w, _, _, rfl, rfl, ew, szl (by rw [List.length_map]; omega), c _ ag g1 g2⟩
      · refine c _ ag ?_ (Fr.refl _ _)
        unfold WQ.add
        rw [if_neg h1', if_pos h2]
        exact hM
theorem ok__law_add_later (T : TX K mg) : FnOk P w K mg base CX0 2 T.a__law_add_later T.d__law_add_later ["waiting", "work", "again", "delayed", "key", "ticks"] sp_mlater := by
  refine T.F__law_add_later.ok sc__law_add_later (fun vs H Q E h => ?_) (fun cdv A outer s H vs Q E hr h => ?_)
  · obtain ⟨U, m, q, wk, ag, k, t, rfl, _⟩ := h
    rfl
  · obtain ⟨U, m, q, wk, ag, k, t, rfl, hM, hU, c⟩ := h
    refine ⟨_, (pss_one (ps_if (pt_cmpR op_eq (pv 5) pe_int (nomark _)) (pss_one (ps_expr (pe_call (ok__law_add T) (hr.mono (by decide)) (by rfl) T.g__law_add T.F__law_add.kp T.b__law_add .nil pass0 (pa_cons (pv 0) (pa_cons (pv 1) (pa_cons (pv 2) (pa_cons (pv 3) (pa_cons (pv 4) pa_nil)))))))) (pss_one (ps_if (pt_cmpR op_notIn_seq (pv 4) (pv 0) rfl) (pss_one (ps_if (PW.pt (pw_or (pt_cmp (pc_dnotin (hu_of hr) (pv 4) (pv 3))) (pw_or1 (pt_cmpR op_gt (pe_dget (hu_of hr) (pv 3) (pv 4) (fun _ _ => rfl)) (pv 5) (nomark _))))) (pss_one (ps_dput (hu_of hr) (pv 3) (pv 4) (pv 5) rfl)) pss_nil)) pss_nil)))), ?_⟩
    obtain ⟨a1, a2, a3, a4, a5, a6⟩ := hM.ap
    refine ⟨_, rfl, rfl, _, rfl, ifd (fun h0 => ?_) (fun h0 => ?_)⟩
    · have h0' : t = 0 := by simpa using h0
      refine ⟨_, rfl, _, rfl, _, rfl, _, rfl, _, rfl, U, m, q, wk, ag, k, rfl, hM, hU, fun H' ag' h1 h2 => c H' ag' ?_ h2⟩
      unfold WQ.later
      rw [if_pos h0']
      exact h1
    have h0' : ¬ t = 0 := by simpa using h0
    refine ⟨_, rfl, _, rfl, m.w, _, rfl, .inl (sql hM.hw), rfl, flat_strs _, _, rfl, ?_⟩
    rw [inV_str]
    refine ifn (fun h2 => ?_) (fun h2 => ?_)
    · obtain ⟨k2, ht, dt⟩ := hM.ht
      have dg : valV k2 (Sum.inr k) = (q.tk k).map V.int := dt.vl k
      have l2 := ds_len dt
      have u12 := hM.U12
      have ea : q.later k t = { q with tk := setF q.tk k (if (q.tk k).getD t < t then (q.tk k).getD t else t) } := by unfold WQ.later; rw [if_neg h0', if_neg h2]
      have put : (if (q.tk k).getD t < t then (q.tk k).getD t else t) = t → Q .non (upd H m.t (.dK (putK k2 (Sum.inr k) (.int t)))) := fun e => by
        refine c _ ag ?_ ((Fr.refl _ _).up (by simp [MP.all]))
        rw [ea, e]
        refine ⟨by rw [upd_ne a1]; exact hM.hw, by rw [upd_ne a3]; exact hM.hk, by rw [upd_ne a5]; exact hM.hg, ⟨_, upd_same, ds_put dt hU t⟩, ?_, hM.n1, hM.n2, hM.n3, hM.n4, hM.wU, hM.wn, hM.k1, hM.kU, hM.kn, hM.g1, hM.gn, hM.U12⟩
        obtain ⟨k3, hf, df⟩ := hM.hf
        exact ⟨k3, by rw [upd_ne hM.n4.symm]; exact hf, df⟩
      refine ⟨_, rfl, _, rfl, m.t, _, rfl, DGet.k (k := Sum.inr k) ht, ?_⟩
      cases e : q.tk k with
      | none =>
        refine ⟨_, rfl, ifbt (by rw [dg, e]; rfl) (ifbt rfl ?_)⟩
        exact ⟨_, rfl, _, rfl, _, rfl, m.t, _, rfl, DPut.k (k := Sum.inr k) ht (szl (by omega)), put (by rw [e]; simp)⟩
      | some v =>
        have dg2 : DGet H m.t (.str k) (some (.int v)) := by
          have := DGet.k (k := Sum.inr k) ht
          rw [dg, e] at this
          exact this
        refine ⟨_, rfl, ifbf (by rw [dg, e]; rfl) ⟨_, rfl, _, rfl, m.t, _, rfl, dg2, _, rfl, _, _, rfl, rfl, _, rfl, ifd (fun h3 => ?_) (fun h3 => ?_)⟩⟩
        · exact ⟨_, rfl, _, rfl, _, rfl, m.t, _, rfl, DPut.k (k := Sum.inr k) ht (szl (by omega)), put (by rw [e]; have h3' : v > t := h3; simp only [Option.getD_some]; rw [if_neg (by omega)])⟩
        · refine c _ ag ?_ (Fr.refl _ _)
          have h3' : ¬ v > t := h3
          have e3 : setF q.tk k (if (q.tk k).getD t < t then (q.tk k).getD t else t) = q.tk := by
            funext s
            unfold setF
            split
            · next e4 =>
              rw [e4, e]
              simp only [Option.getD_some]
              split
              · rfl
              · congr 1; omega
            · rfl
          rw [ea, e3]
          exact hM
    · refine c _ ag ?_ (Fr.refl _ _)
      unfold WQ.later
      rw [if_neg h0', if_pos h2]
      exact hM
end
def tkz (i : Nat) : Int := if i ≤ 6 then 2 ^ i else 64
theorem tkz_step (i : Nat) : tkz (i + 1) = if tkz i < 64 then tkz i * 2 else tkz i := by
  unfold tkz
  by_cases h : i ≤ 5
  · have : i = 0 ∨ i = 1 ∨ i = 2 ∨ i = 3 ∨ i = 4 ∨ i = 5 := by omega
    rcases this with rfl | rfl | rfl | rfl | rfl | rfl <;> decide
  · by_cases h2 : i = 6
    · subst h2; decide
    · simp [show ¬ i + 1 ≤ 6 by omega, show ¬ i ≤ 6 by omega]
theorem tkz_min {n most : Int} (h1 : 1 ≤ n) (m1 : 1 ≤ most) (m2 : most ≤ 64) : (if most < tkz (n - 1).toNat then most else tkz (n - 1).toNat) = delayZ most n := by
  unfold delayZ
  generalize (n - 1).toNat = i
  unfold tkz
  by_cases h : i ≤ 6
  · rw [if_pos h]
    split
    · split
      · omega
      · rfl
    · split
      · rfl
      · omega
  · rw [if_neg h]
    have : (2 : Int) ^ 7 ≤ 2 ^ i := pow_le2 (by omega)
    have e : (2 : Int) ^ 7 = 128 := by decide
    rw [if_neg (show ¬ (2 : Int) ^ i < most by omega)]
    split
    · rfl
    · omega
def sp_mdelay : Sp := fun vs H Q _ => ∃ (n most : Int), vs = [.int n, .int most] ∧ 1 ≤ n ∧ n ≤ 1000 ∧ 1 ≤ most ∧ most ≤ 64 ∧ Q (.int (delayZ most n)) H
def WQ.gone (q : WQ) (most : Int) (k : Str) (fd : Bool) : WQ := if fd = true then q.bad most k else q.fin k
def sp_mleave : Sp := fun vs H Q _ => ∃ (U : List Str) (m : MP) (q : WQ) (wk ag : List Str) (k : Str) (most : Int) (fd b : Bool), vs = [.ref m.w, .ref m.k, .ref m.g, .ref m.t, .ref m.f, .int most, .str k, .bl fd] ∧ MAt U H m q wk ag ∧ k ∈ U ∧ q.wk k = some b ∧ (∀ x n, q.fl x = some n → 1 ≤ n ∧ n ≤ 900) ∧ 1 ≤ most ∧ most ≤ 64 ∧
  ∀ H' wk' ag', MAt U H' m (q.gone most k fd) wk' ag' → Fr m.all H H' → Q .non H'
section
variable {P : Program} {w : World} {K : PySem.W.Frag} {mg : Str → Option Value} {base : Heap}
theorem ok__law_delay (T : TX K mg) : FnOk P w K mg base CX0 1 T.a__law_delay T.d__law_delay ["count", "most"] sp_mdelay := by
  refine T.F__law_delay.ok sc__law_delay (fun vs H Q E h => ?_) (fun cdv A outer s H vs Q E hr h => ?_)
  · obtain ⟨n, most, rfl, _⟩ := h
    rfl
  · obtain ⟨n, most, rfl, n1, n2, m1, m2, q⟩ := h
    refine ⟨_, (pss_cons (ps_set (i := 2) sc__law_delay.nd rfl (Or.inl rfl) pe_int)
      (pss_cons (ps_for PassesOwn.never rfl (pi_range1 (by rfl) T.n_range (pa_cons (pe_op op_sub (pv 0) pe_int) pa_nil)) (pg_name (i := 3) sc__law_delay.nd rfl (Or.inl rfl))
        (pss_one (ps_if (pt_cmpR op_lt (pv 2) pe_int (nomark _)) (pss_one (ps_set (i := 2) sc__law_delay.nd rfl (Or.inl rfl) (pe_op op_mul (pv 2) pe_int))) pss_nil)))
      (pss_one (ps_ret (pe_callB (call_min2 rfl) (by rfl) T.n_min (by decide +kernel) (pa_cons (pv 2) (pa_cons (pv 1) pa_nil))))))), ?_⟩
    refine ⟨_, rfl, _, _, rfl, rfl, n - 1, rfl, by omega, by omega, for_range (lo := 0) (n := _) (fun i σ H2 => ∃ x3, σ = [some (.int n), some (.int most), some (.int (tkz i)), x3] ∧ H2 = H) ⟨none, rfl, rfl⟩ ?_ ?_⟩
    · rintro i σ _ hi ⟨x3, rfl, rfl⟩
      refine ⟨_, rfl, _, _, rfl, rfl, _, rfl, ifd (fun h => ?_) (fun h => ?_)⟩
      · refine ⟨_, rfl, _, _, rfl, rfl, .inr ⟨by decide, by decide⟩, some (.int (0 + (i : Int))), ?_, rfl⟩
        rw [tkz_step, if_pos h]
        rfl
      · refine ⟨some (.int (0 + (i : Int))), ?_, rfl⟩
        rw [tkz_step, if_neg h]
        rfl
    · rintro σ _ ⟨x3, rfl, rfl⟩
      refine ⟨_, rfl, _, rfl, _, _, rfl, ?_⟩
      dsimp only
      rw [tkz_min n1 m1 m2]
      exact q
theorem ok__law_leave (T : TX K mg) : FnOk P w K mg base CX0 3 T.a__law_leave T.d__law_leave ["waiting", "work", "again", "delayed", "failures", "most", "key", "failed"] sp_mleave := by
  refine T.F__law_leave.ok sc__law_leave (fun vs H Q E h => ?_) (fun cdv A outer s H vs Q E hr h => ?_)
  · obtain ⟨U, m, q, wk, ag, k, most, fd, b, rfl, _⟩ := h
    rfl
  · obtain ⟨U, m, q, wk, ag, k, most, fd, b, rfl, hM, hU, hb, hfl, m1, m2, c⟩ := h
    refine ⟨_, (pss_cons (ps_expr (pe_bm PySem.F.plainAttrs_list PySem.F.slot_list_remove PySem.F.type_list_remove mt_removeS (pv 1) (pa_cons (pv 6) pa_nil)))
      (C8.pss_cut (ps_if (pt_val (pv 7)) (pss_one (ps_dput (hu_of hr) (pv 4) (pv 6) (pe_op op_add (pe_dget2 (hu_of hr) (pv 4) (pv 6) pe_int ⟨rfl, rfl, rfl, rfl⟩) pe_int) rfl)) (pss_one (ps_expr (pe_dpop2 (pv 4) (pv 6) pe_int ⟨rfl, rfl, rfl, rfl⟩))))
      (pss_one (ps_if (pt_cmpR op_in_seq (pv 6) (pv 2) rfl) (pss_cons (ps_expr (pe_bm PySem.F.plainAttrs_list PySem.F.slot_list_remove PySem.F.type_list_remove mt_removeS (pv 2) (pa_cons (pv 6) pa_nil)))
        (pss_one (ps_expr (pe_call (ok__law_add T) (hr.mono (by decide)) (by rfl) T.g__law_add T.F__law_add.kp T.b__law_add .nil pass0 (pa_cons (pv 0) (pa_cons (pv 1) (pa_cons (pv 2) (pa_cons (pv 3) (pa_cons (pv 6) pa_nil))))))))) (pss_one (ps_if (pt_val (pv 7)) (pss_one (ps_expr (pe_call (ok__law_add_later T) (hr.mono (by decide)) (by rfl) T.g__law_add_later T.F__law_add_later.kp T.b__law_add_later .nil pass0 (pa_cons (pv 0) (pa_cons (pv 1) (pa_cons (pv 2) (pa_cons (pv 3) (pa_cons (pv 6) (pa_cons (pe_call (ok__law_delay T) (hr.mono (by decide)) (by rfl) T.g__law_delay T.F__law_delay.kp T.b__law_delay .nil pass0 (pa_cons (pe_dget (hu_of hr) (pv 4) (pv 6) (fun _ _ => rfl)) (pa_cons (pv 5) pa_nil))) pa_nil))))))))) pss_nil)))))), ?_⟩
    obtain ⟨a1, a2, a3, a4, a5, a6⟩ := hM.ap
    have hk : k ∈ wk := (hM.k1 k).mpr (by rw [hb]; rfl)
    refine ⟨_, rfl, .inl ⟨rfl, _, sql hM.hk⟩, _, rfl, m.k, wk, k, rfl, rfl, hM.hk, hk, ?_⟩
    obtain ⟨k2, ht, dt⟩ := hM.ht
    obtain ⟨k3, hf, df⟩ := hM.hf
    refine ⟨fun σ' G => ∃ fl' : Str → Option Int, σ' = [some (.ref m.w), some (.ref m.k), some (.ref m.g), some (.ref m.t), some (.ref m.f), some (.int most), some (.str k), some (.bl fd)] ∧ fl' = (if fd = true then setF q.fl k ((q.fl k).getD 0 + 1) else unsF q.fl k) ∧
      G m.w = some (.lst (q.w.map V.str)) ∧ G m.k = some (.lst ((wk.erase k).map V.str)) ∧ G m.g = some (.lst (ag.map V.str)) ∧ DAt U V.int G m.t q.tk ∧ DAt U V.int G m.f fl' ∧ Fr m.all H G, ?_, ?_⟩
    · have s1 : Fr [m.k] H (upd H m.k (.lst ((wk.erase k).map V.str))) := (Fr.refl _ _).up (by simp)
      have f1 : Fr m.all H (upd H m.k (.lst ((wk.erase k).map V.str))) := (Fr.refl _ _).up (by simp [MP.all])
      have ew : (upd H m.k (.lst ((wk.erase k).map V.str))) m.w = some (.lst (q.w.map V.str)) := by rw [upd_ne hM.n1]; exact hM.hw
      have ek : (upd H m.k (.lst ((wk.erase k).map V.str))) m.k = some (.lst ((wk.erase k).map V.str)) := upd_same
      have eg : (upd H m.k (.lst ((wk.erase k).map V.str))) m.g = some (.lst (ag.map V.str)) := by rw [upd_ne hM.n3.symm]; exact hM.hg
      have et : (upd H m.k (.lst ((wk.erase k).map V.str))) m.t = some (.dK k2) := by rw [upd_ne a3.symm]; exact ht
      have ef : (upd H m.k (.lst ((wk.erase k).map V.str))) m.f = some (.dK k3) := by rw [upd_ne a4.symm]; exact hf
      generalize upd H m.k (.lst ((wk.erase k).map V.str)) = H1 at s1 f1 ew ek eg et ef
      have put : ∀ kv fl', DS U V.int kv fl' → fl' = (if fd = true then setF q.fl k ((q.fl k).getD 0 + 1) else unsF q.fl k) → ∃ fl' : Str → Option Int, [some (V.ref m.w), some (.ref m.k), some (.ref m.g), some (.ref m.t), some (.ref m.f), some (.int most), some (.str k), some (.bl fd)] = [some (.ref m.w), some (.ref m.k), some (.ref m.g), some (.ref m.t), some (.ref m.f), some (.int most), some (.str k), some (.bl fd)] ∧ fl' = (if fd = true then setF q.fl k ((q.fl k).getD 0 + 1) else unsF q.fl k) ∧
          (upd H1 m.f (.dK kv)) m.w = some (.lst (q.w.map V.str)) ∧ (upd H1 m.f (.dK kv)) m.k = some (.lst ((wk.erase k).map V.str)) ∧ (upd H1 m.f (.dK kv)) m.g = some (.lst (ag.map V.str)) ∧ DAt U V.int (upd H1 m.f (.dK kv)) m.t q.tk ∧ DAt U V.int (upd H1 m.f (.dK kv)) m.f fl' ∧ Fr m.all H (upd H1 m.f (.dK kv)) := fun kv fl' h1 h2 =>
        ⟨fl', rfl, h2, by rw [upd_ne a2]; exact ew, by rw [upd_ne a4]; exact ek, by rw [upd_ne a6]; exact eg, ⟨k2, by rw [upd_ne hM.n4]; exact et, dt⟩, ⟨kv, upd_same, h1⟩, f1.up (by simp [MP.all])⟩
      have u12 := hM.U12
      have l3 := ds_len df
      refine ⟨_, rfl, fd, rfl, ifb2 (fun e => ?_) (fun e => ?_)⟩
      · refine ⟨_, rfl, m.f, rfl, .inl ⟨_, .inl ef⟩, _, rfl, _, DGet.k (k := Sum.inr k) ef, (q.fl k).getD 0, 1, by rw [df.vl k]; cases q.fl k <;> rfl, rfl, _, rfl, _, rfl, m.f, _, rfl, DPut.k (k := Sum.inr k) ef (szl (by omega)), ?_⟩
        exact put _ _ (ds_put df hU _) (by rw [if_pos e])
      · refine ⟨_, rfl, m.f, rfl, .inl ⟨_, .inl ef⟩, _, rfl, k3, Sum.inr k, ef, rfl, fun v hv => put _ _ (ds_drop df k) (by rw [if_neg (by rw [e]; decide)]), fun hv => ?_⟩
        refine ⟨q.fl, rfl, ?_, ew, ek, eg, ⟨k2, et, dt⟩, ⟨k3, ef, df⟩, f1⟩
        rw [if_neg (by rw [e]; decide)]
        have fn : q.fl k = none := by
          rw [df.vl k] at hv
          cases e : q.fl k with
          | none => rfl
          | some _ => rw [e] at hv; cases hv
        funext s; unfold unsF; split
        · next e => rw [e, fn]
        · rfl
    rintro σ' G ⟨fl', rfl, efl, ew, ek, eg, et, ef, f1⟩
    have ein : ∀ x, x ∈ wk.erase k ↔ x ∈ wk ∧ x ≠ k := fun x => by rw [hM.kn.mem_erase_iff]; exact And.comm
    have ek1 : ∀ x, x ∈ wk.erase k ↔ (unsF q.wk k x).isSome = true := fun x => by
      rw [ein, hM.k1]
      unfold unsF
      by_cases e : x = k
      · simp [e]
      · simp [e]
    refine ⟨_, rfl, _, rfl, m.g, _, rfl, .inl (sql eg), rfl, flat_strs _, _, rfl, ?_⟩
    rw [inV_str]
    refine ifd (fun hg => ?_) (fun hg => ?_)
    · have hbt : q.wk k = some true := (hM.g1 k).mp hg
      refine ⟨_, rfl, .inl ⟨rfl, _, sql eg⟩, _, rfl, m.g, ag, k, rfl, rfl, eg, hg, ?_⟩
      have hM2 : MAt U (upd G m.g (.lst ((ag.erase k).map V.str))) m { q.left k with fl := fl' } (wk.erase k) (ag.erase k) := by
        refine ⟨by rw [upd_ne hM.n2]; exact ew, by rw [upd_ne hM.n3]; exact ek, upd_same, et.frame ((Fr.refl [m.g] _).up (by simp)) (by simp [a5.symm]), ef.frame ((Fr.refl [m.g] _).up (by simp)) (by simp [a6.symm]), hM.n1, hM.n2, hM.n3, hM.n4, hM.wU, hM.wn, ek1, fun x hx => hM.kU x ((ein x).mp hx).1, hM.kn.erase k, fun x => ?_, hM.gn.erase k, hM.U12⟩
        rw [hM.gn.mem_erase_iff, hM.g1]
        show _ ↔ unsF q.wk k x = some true
        unfold unsF
        by_cases e : x = k
        · simp [e]
        · simp [e]
      refine ⟨_, rfl, _, rfl, _, rfl, _, rfl, _, rfl, U, m, _, _, _, k, rfl, hM2, hU, fun H' ag' h1 h2 => c H' (wk.erase k) ag' ?_ ((f1.up (by simp [MP.all])).trans h2)⟩
      rw [efl] at h1
      unfold WQ.gone
      cases fd with
      | true =>
        rw [if_pos rfl] at h1 ⊢
        unfold WQ.bad
        rw [if_pos hbt]
        exact h1
      | false =>
        rw [if_neg (by decide)] at h1 ⊢
        unfold WQ.fin
        rw [if_pos hbt]
        exact h1
    · have hbf : ¬ q.wk k = some true := fun z => hg ((hM.g1 k).mpr z)
      have hM2 : MAt U G m { q.left k with fl := fl' } (wk.erase k) ag := by
        refine ⟨ew, ek, eg, et, ef, hM.n1, hM.n2, hM.n3, hM.n4, hM.wU, hM.wn, ek1, fun x hx => hM.kU x ((ein x).mp hx).1, hM.kn.erase k, fun x => ?_, hM.gn, hM.U12⟩
        rw [hM.g1]
        show _ ↔ unsF q.wk k x = some true
        unfold unsF
        by_cases e : x = k
        · simp [e, hbf]
        · simp [e]
      refine ⟨_, rfl, fd, rfl, ifb2 (fun e => ?_) (fun e => ?_)⟩
      · have ef2 : fl' = setF q.fl k ((q.fl k).getD 0 + 1) := by rw [efl, if_pos e]
        obtain ⟨k4, hf4, df4⟩ := ef
        have dg : DGet G m.f (.str k) (some (.int ((q.fl k).getD 0 + 1))) := by
          have := DGet.k (k := Sum.inr k) hf4
          rw [df4.vl k, ef2, setF_same] at this
          exact this
        have nb : 1 ≤ (q.fl k).getD 0 + 1 ∧ (q.fl k).getD 0 + 1 ≤ 1000 := by
          cases e : q.fl k with
          | none => simp
          | some n => have := hfl k n e; simp only [Option.getD_some]; omega
        refine ⟨_, rfl, _, rfl, _, rfl, _, rfl, _, rfl, _, rfl, _, rfl, m.f, _, rfl, dg, _, rfl, _, most, rfl, nb.1, nb.2, m1, m2, U, m, _, _, _, k, _, rfl, hM2, hU, fun H' ag' h1 h2 => c H' (wk.erase k) ag' ?_ (f1.trans h2)⟩
        rw [ef2] at h1
        unfold WQ.gone
        rw [if_pos e]
        unfold WQ.bad
        rw [if_neg hbf]
        exact h1
      · refine c G (wk.erase k) ag ?_ f1
        rw [efl] at hM2
        unfold WQ.gone
        rw [if_neg (by rw [e]; decide)] at hM2 ⊢
        unfold WQ.fin
        rw [if_neg hbf]
        exact hM2
end
def decA (f : Str → Option Int) (xs : List Str) : Str → Option Int := fun s => if s ∈ xs then (f s).map (· - 1) else f s
def unsA (f : Str → Option Int) (xs : List Str) : Str → Option Int := fun s => if s ∈ xs then none else f s
theorem strip : ∀ (ys : List Str) (q : WQ), ys.foldl WQ.step q = ys.foldl WQ.add { q with tk := unsA q.tk ys }
  | [], q => by
    have : unsA q.tk [] = q.tk := by funext s; simp [unsA]
    rw [this]; rfl
  | y :: r, q => by
    rw [List.foldl_cons, strip r, List.foldl_cons]
    have e : ({ q.step y with tk := unsA (q.step y).tk r } : WQ) = ({ q with tk := unsA q.tk (y :: r) } : WQ).add y := by
      have e1 : unsA (unsF q.tk y) r = unsA q.tk (y :: r) := by
        funext s; unfold unsA unsF
        by_cases h : s ∈ r
        · simp [h]
        · by_cases h2 : s = y <;> simp [h, h2]
      have e2 : unsF (unsA q.tk (y :: r)) y = unsA q.tk (y :: r) := by
        funext s; unfold unsA unsF
        by_cases h2 : s = y <;> simp [h2]
      rw [step_tk, e1]
      unfold WQ.step WQ.add
      dsimp only
      split
      · rfl
      · split
        · rfl
        · rw [e2]
    rw [e]
theorem pass_eq (q : WQ) (ys : List Str) : q.pass ys = ys.foldl WQ.add { q with tk := unsA (fun s => (q.tk s).map (· - 1)) ys } := strip ys { q with tk := fun s => (q.tk s).map (· - 1) }
section
variable {U : List Str} {H H' : Hp} {m : MP} {q : WQ} {wk ag : List Str}
theorem MAt.setT (h : MAt U H m q wk ag) {kv : List (Key × V)} {tk' : Str → Option Int} (d : DS U V.int kv tk') : MAt U (upd H m.t (.dK kv)) m { q with tk := tk' } wk ag := by
  obtain ⟨a1, a2, a3, a4, a5, a6⟩ := h.ap
  obtain ⟨k3, hf, df⟩ := h.hf
  exact ⟨by rw [upd_ne a1]; exact h.hw, by rw [upd_ne a3]; exact h.hk, by rw [upd_ne a5]; exact h.hg, ⟨kv, upd_same, d⟩, ⟨k3, by rw [upd_ne h.n4.symm]; exact hf, df⟩, h.n1, h.n2, h.n3, h.n4, h.wU, h.wn, h.k1, h.kU, h.kn, h.g1, h.gn, h.U12⟩
theorem MAt.off (h : MAt U H m q wk ag) {l : Addr} (hl : H l = none) : ∀ x ∈ m.all, x ≠ l := fun x hx e => by
  subst e
  obtain ⟨k2, ht, _⟩ := h.ht
  obtain ⟨k3, hf, _⟩ := h.hf
  have : x = m.w ∨ x = m.k ∨ x = m.g ∨ x = m.t ∨ x = m.f := by simpa [MP.all] using hx
  rcases this with rfl | rfl | rfl | rfl | rfl
  · rw [h.hw] at hl; cases hl
  · rw [h.hk] at hl; cases hl
  · rw [h.hg] at hl; cases hl
  · rw [ht] at hl; cases hl
  · rw [hf] at hl; cases hl
theorem MAt.putL (h : MAt U H m q wk ag) {l : Addr} (hl : ∀ x ∈ m.all, x ≠ l) (o : HO) : MAt U (upd H l o) m q wk ag := h.frame (L := [l]) ((Fr.refl _ _).up (by simp)) fun x hx hm => hl x hx (by simpa using hm)
end
theorem decA_snoc {f : Str → Option Int} {xs : List Str} {k : Str} {v : Int} (h : f k = some v) : decA f (xs ++ [k]) = setF (decA f xs) k (v - 1) := by
  funext s
  unfold decA setF
  by_cases e : s = k
  · rw [if_pos (by simp [e]), if_pos e, e, h]; rfl
  · simp [e]
theorem unsA_snoc (f : Str → Option Int) (xs : List Str) (k : Str) : unsA f (xs ++ [k]) = unsF (unsA f xs) k := by
  funext s
  unfold unsA unsF
  by_cases e : s = k
  · simp [e]
  · simp [e]
theorem due_eq {f : Str → Option Int} {zs ys : List Str} (h : Ord (fun s => (f s).isSome) zs) (g : Ord (fun s => decide (f s = some 1)) ys) : zs.filter (fun s => decide (f s = some 1)) = ys := by
  refine pw_uniq ((sorted_pw h.2.1).sublist List.filter_sublist) (sorted_pw g.2.1) (nd_perm (h.1.sublist List.filter_sublist) g.1 fun x => ?_)
  rw [List.mem_filter, h.2.2, g.2.2]
  constructor
  · exact fun z => z.2
  · intro z
    have : f x = some 1 := by simpa using z
    exact ⟨by show (f x).isSome = true; rw [this]; rfl, z⟩
def sp_mtick : Sp := fun vs H Q _ => ∃ (U : List Str) (m : MP) (q : WQ) (wk ag ys : List Str), vs = [.ref m.w, .ref m.k, .ref m.g, .ref m.t] ∧ MAt U H m q wk ag ∧ Ord (fun s => decide (q.tk s = some 1)) ys ∧ ∀ H' ag', MAt U H' m (q.pass ys) wk ag' → Fr m.all H H' → Q .non H'
section
variable {P : Program} {w : World} {K : PySem.W.Frag} {mg : Str → Option Value} {base : Heap}
theorem ok__law_tick (T : TX K mg) : FnOk P w K mg base CX0 2 T.a__law_tick T.d__law_tick ["waiting", "work", "again", "delayed"] sp_mtick := by
  refine T.F__law_tick.ok sc__law_tick (fun vs H Q E h => ?_) (fun cdv A outer s H vs Q E hr h => ?_)
  · obtain ⟨U, m, q, wk, ag, ys, rfl, _⟩ := h
    rfl
  · obtain ⟨U, m, q, wk, ag, ys, rfl, hM, hO, c⟩ := h
    refine ⟨_, (pss_cons (ps_set (i := 4) sc__law_tick.nd rfl (Or.inl rfl) (pe_lst pa_nil))
      (pss_cons (ps_for PassesOwn.never rfl (pi_list (pe_callB cr_sortedS (by rfl) T.n_sorted (by decide +kernel) (pa_cons (pe_callTy (call_list_dK rfl) (by rfl) T.n_list (by decide +kernel) (pa_cons (pv 3) pa_nil)) pa_nil))) (pg_name (i := 5) sc__law_tick.nd rfl (Or.inl rfl))
        (pss_cons (ps_dput (hu_of hr) (pv 3) (pv 5) (pe_op op_sub (pe_dget (hu_of hr) (pv 3) (pv 5) (fun _ _ => rfl)) pe_int) rfl)
        (pss_one (ps_if (pt_cmpR op_eq (pe_dget (hu_of hr) (pv 3) (pv 5) (fun _ _ => rfl)) pe_int (nomark _)) (pss_one (ps_expr (pe_bm PySem.F.plainAttrs_list PySem.F.slot_list_append PySem.F.type_list_append mt_append (pv 4) (pa_cons (pv 5) pa_nil)))) pss_nil))))
      (pss_cons (ps_for PassesOwn.never rfl (pi_list (pv 4)) (pg_name (i := 5) sc__law_tick.nd rfl (Or.inl rfl))
        (pss_one (ps_expr (pe_dpop2 (pv 3) (pv 5) pe_int ⟨rfl, rfl, rfl, rfl⟩))))
      (pss_one (ps_for PassesOwn.never rfl (pi_list (pv 4)) (pg_name (i := 5) sc__law_tick.nd rfl (Or.inl rfl))
        (pss_one (ps_expr (pe_call (ok__law_add T) (hr.mono (by decide)) (by rfl) T.g__law_add T.F__law_add.kp T.b__law_add .nil pass0 (pa_cons (pv 0) (pa_cons (pv 1) (pa_cons (pv 2) (pa_cons (pv 3) (pa_cons (pv 5) pa_nil))))))))))))), ?_⟩
    refine ⟨Nat.zero_le _, fun du hdu => ?_⟩
    have nd := hM.off hdu
    have hM1 := hM.putL nd (.lst [])
    have e1 : (upd H du (.lst [])) du = some (.lst []) := upd_same
    have f1 : Fr m.all H (upd H du (.lst [])) := Fr.of_same (same_upd hdu)
    dsimp only [L2.tSeq]
    generalize upd H du (.lst []) = H1 at hM1 e1 f1
    obtain ⟨k2, ht, dt⟩ := hM1.ht
    have l2 := ds_len dt
    have u12 := hM.U12
    have ekl : (k2.map fun kv => kV kv.1) = (k2.map fun kv => keyS kv.1).map V.str := by
      rw [List.map_map]
      refine List.map_congr_left fun kv hm => ?_
      obtain ⟨s, _, e⟩ := dt.ks kv hm
      show kV kv.1 = V.str (keyS kv.1)
      rw [e]; rfl
    refine ⟨_, rfl, m.t, k2, rfl, ht, fun l1 hl1 => ⟨l1, _, rfl, sql (by rw [upd_same, ekl]), (by rw [List.length_map]; omega), fun zs z1 hp hs hz => ?_⟩⟩
    have s2 := (same_upd (o := .lst (k2.map fun kv => kV kv.1)) hl1).trans (same_upd (o := .lst (zs.map V.str)) hz)
    have hM2 := hM1.same s2
    have e2 := s2 _ _ e1
    have f2 := f1.trans (Fr.of_same (L := m.all) s2)
    have ez : (upd (upd H1 l1 (.lst (k2.map fun kv => kV kv.1))) z1 (.lst (zs.map V.str))) z1 = some (.lst (zs.map V.str)) := upd_same
    have nz : ∀ x ∈ m.all, x ≠ z1 := (hM1.same (same_upd (o := .lst (k2.map fun kv => kV kv.1)) hl1)).off hz
    have ndz : du ≠ z1 := fun z => by
      have := (same_upd (o := .lst (k2.map fun kv => kV kv.1)) hl1) _ _ e1
      rw [z, hz] at this; cases this
    have hO2 : Ord (fun s => (q.tk s).isSome) zs := ⟨hp.nodup_iff.mpr (keys_nd dt), hs, fun s => by rw [hp.mem_iff, key_iff dt]⟩
    have zl : zs.length ≤ 12 := by rw [hp.length_eq, List.length_map]; omega
    generalize upd (upd H1 l1 (.lst (k2.map fun kv => kV kv.1))) z1 (.lst (zs.map V.str)) = H2 at hM2 e2 f2 ez
    clear hz hl1
    -- the first walk
    refine ⟨z1, rfl, ⟨_, sql ez⟩, for_list (K := K) (a := z1) (xs := zs.map V.str) (fun i σ G => ∃ x5, σ = [some (.ref m.w), some (.ref m.k), some (.ref m.g), some (.ref m.t), some (.ref du), x5] ∧ MAt U G m { q with tk := decA q.tk (zs.take i) } wk ag ∧ G du = some (.lst (((zs.take i).filter fun s => decide (q.tk s = some 1)).map V.str)) ∧ G z1 = some (.lst (zs.map V.str)) ∧ Fr m.all H G)
      ⟨none, rfl, by have : decA q.tk [] = q.tk := by funext s; simp [decA]
                     rw [List.take_zero, this]; exact hM2, by rw [List.take_zero]; exact e2, ez, f2⟩ (fun i σ G _ ⟨_, _, _, _, h, _⟩ => sql h) ?_ ?_⟩
    · rintro i x σ G hx ⟨x5, rfl, hG, ed, eg, fG⟩
      obtain ⟨k, hk, rfl⟩ := map_at hx
      have hkz : k ∈ zs := List.mem_of_getElem? hk
      obtain ⟨v, hv⟩ := Option.isSome_iff_exists.mp ((hO2.2.2 k).mp hkz)
      have hkn : k ∉ zs.take i := fun hm => by
        obtain ⟨hi, e⟩ := List.getElem?_eq_some_iff.mp hk
        obtain ⟨j, hj, ej⟩ := List.getElem_of_mem hm
        rw [List.getElem_take] at ej
        have : j < i := by rw [List.length_take] at hj; omega
        have := (List.getElem_inj hO2.1).mp (ej.trans e.symm)
        omega
      obtain ⟨k4, ht4, dt4⟩ := hG.ht
      have dt4 : DS U V.int k4 (decA q.tk (zs.take i)) := dt4
      have dk : decA q.tk (zs.take i) k = some v := by unfold decA; rw [if_neg hkn]; exact hv
      have dg : DGet G m.t (.str k) (some (.int v)) := by
        have := DGet.k (k := Sum.inr k) ht4
        rw [dt4.vl k, dk] at this
        exact this
      have l4 := ds_len dt4
      have hU : k ∈ U := by
        have := (key_iff dt k).mpr (by rw [hv]; rfl)
        exact keys_in dt k this
      refine ⟨_, rfl, _, rfl, m.t, _, rfl, dg, _, _, rfl, rfl, _, rfl, _, rfl, m.t, _, rfl, DPut.k (k := Sum.inr k) ht4 (szl (by omega)), ?_⟩
      have et : zs.take (i + 1) = zs.take i ++ [k] := take_more hk
      have hG2 : MAt U (upd G m.t (.dK (putK k4 (Sum.inr k) (.int (v - 1))))) m { q with tk := decA q.tk (zs.take (i + 1)) } wk ag := by
        rw [et, decA_snoc hv]
        exact hG.setT (ds_put dt4 hU (v - 1))
      have nt : ∀ x, (∀ y ∈ m.all, y ≠ x) → m.t ≠ x := fun x h => h m.t (by simp [MP.all])
      have ed2 : (upd G m.t (.dK (putK k4 (Sum.inr k) (.int (v - 1))))) du = some (.lst (((zs.take i).filter fun s => decide (q.tk s = some 1)).map V.str)) := by rw [upd_ne (nt du nd).symm]; exact ed
      have eg2 : (upd G m.t (.dK (putK k4 (Sum.inr k) (.int (v - 1))))) z1 = some (.lst (zs.map V.str)) := by rw [upd_ne (nt z1 nz).symm]; exact eg
      have f3 := fG.up (a := m.t) (o := .dK (putK k4 (Sum.inr k) (.int (v - 1)))) (by simp [MP.all])
      have dg2 : DGet (upd G m.t (.dK (putK k4 (Sum.inr k) (.int (v - 1))))) m.t (.str k) (some (.int (v - 1))) := by
        have := DGet.k (H := upd G m.t (.dK (putK k4 (Sum.inr k) (.int (v - 1))))) (k := Sum.inr k) upd_same
        rw [(ds_put dt4 hU (v - 1)).vl k, setF_same] at this
        exact this
      dsimp only
      generalize upd G m.t (.dK (putK k4 (Sum.inr k) (.int (v - 1)))) = G2 at hG2 ed2 eg2 f3 dg2
      have tf := take_filter (fun s => decide (q.tk s = some 1)) hk
      have ll : ((zs.take i).filter fun s => decide (q.tk s = some 1)).length ≤ 12 := Nat.le_trans (List.length_filter_le _ _) (by rw [List.length_take]; omega)
      refine ⟨_, rfl, _, rfl, m.t, _, rfl, dg2, rfl, _, rfl, ifd (fun h => ?_) (fun h => ?_)⟩
      · have v1 : v = 1 := by have : v - 1 = 0 := by simpa using h
                              omega
        refine ⟨_, rfl, .inl ⟨rfl, _, sql ed2⟩, _, rfl, du, _, _, rfl, rfl, ed2, szl (by rw [List.length_map]; omega), ?_⟩
        refine ⟨_, rfl, hG2.putL nd _, ?_, by rw [upd_ne ndz.symm]; exact eg2, ?_⟩
        · rw [upd_same, tf, if_pos (by rw [hv, v1]; rfl), List.map_append]; rfl
        · intro x o hx hn
          by_cases e : x = du
          · rw [e, hdu] at hx; cases hx
          · rw [upd_ne e]; exact f3 x o hx hn
      · have v1 : ¬ v = 1 := fun e => h (by rw [e]; rfl)
        refine ⟨_, rfl, hG2, ?_, eg2, f3⟩
        rw [tf, if_neg (by rw [hv]; simpa using v1), List.append_nil]
        exact ed2
    rintro σ G ⟨x5, rfl, hG, ed, eg, fG⟩
    rw [List.length_map, List.take_length] at hG ed
    rw [due_eq hO2 hO] at ed
    have edec : decA q.tk zs = fun s => (q.tk s).map (· - 1) := by
      funext s
      unfold decA
      by_cases h : s ∈ zs
      · rw [if_pos h]
      · rw [if_neg h]
        have : ¬ (q.tk s).isSome = true := fun z => h ((hO2.2.2 s).mpr z)
        cases e : q.tk s with
        | none => rfl
        | some _ => rw [e] at this; exact absurd rfl this
    rw [edec] at hG
    have yU : ∀ k ∈ ys, k ∈ U := fun k hk => by
      have : q.tk k = some 1 := by simpa using (hO.2.2 k).mp hk
      exact keys_in dt k ((key_iff dt k).mpr (by rw [this]; rfl))
    have yl : ys.length ≤ 12 := Nat.le_trans (nd_len hO.1 yU) u12
    have ep := pass_eq q ys
    generalize (fun s => (q.tk s).map (· - 1)) = D at hG ep
    -- the second walk
    refine ⟨_, rfl, du, rfl, ⟨_, sql ed⟩, for_list (K := K) (a := du) (xs := ys.map V.str) (fun i σ G => ∃ x5, σ = [some (.ref m.w), some (.ref m.k), some (.ref m.g), some (.ref m.t), some (.ref du), x5] ∧ MAt U G m { q with tk := unsA D (ys.take i) } wk ag ∧ G du = some (.lst (ys.map V.str)) ∧ Fr m.all H G)
      ⟨x5, rfl, by have : unsA D [] = D := by funext s; simp [unsA]
                   rw [List.take_zero, this]; exact hG, ed, fG⟩ (fun i σ G _ ⟨_, _, _, h, _⟩ => sql h) ?_ ?_⟩
    · rintro i x σ G hx ⟨x5, rfl, hG, ed, fG⟩
      obtain ⟨k, hk, rfl⟩ := map_at hx
      obtain ⟨k4, ht4, dt4⟩ := hG.ht
      have dt4 : DS U V.int k4 (unsA D (ys.take i)) := dt4
      have et : ys.take (i + 1) = ys.take i ++ [k] := take_more hk
      have nt : m.t ≠ du := nd m.t (by simp [MP.all])
      refine ⟨_, rfl, m.t, rfl, .inl ⟨_, .inl ht4⟩, _, rfl, k4, Sum.inr k, ht4, rfl, fun v hv => ?_, fun hv => ?_⟩
      · refine ⟨_, rfl, ?_, by rw [upd_ne nt.symm]; exact ed, fG.up (by simp [MP.all])⟩
        rw [et, unsA_snoc]
        exact hG.setT (ds_drop dt4 k)
      · refine ⟨_, rfl, ?_, ed, fG⟩
        have fn : unsA D (ys.take i) k = none := by
          rw [dt4.vl k] at hv
          cases e : unsA D (ys.take i) k with
          | none => rfl
          | some _ => rw [e] at hv; cases hv
        have e3 : unsF (unsA D (ys.take i)) k = unsA D (ys.take i) := by
          funext s; unfold unsF; split
          · next e => rw [e, fn]
          · rfl
        rw [et, unsA_snoc, e3]
        exact hG
    rintro σ G ⟨x5, rfl, hG, ed, fG⟩
    rw [List.length_map, List.take_length] at hG
    -- the third walk
    refine ⟨_, rfl, du, rfl, ⟨_, sql ed⟩, for_list (K := K) (a := du) (xs := ys.map V.str) (fun i σ G => ∃ x5 ag', σ = [some (.ref m.w), some (.ref m.k), some (.ref m.g), some (.ref m.t), some (.ref du), x5] ∧ MAt U G m ((ys.take i).foldl WQ.add { q with tk := unsA D ys }) wk ag' ∧ G du = some (.lst (ys.map V.str)) ∧ Fr m.all H G)
      ⟨x5, ag, rfl, by rw [List.take_zero]; exact hG, ed, fG⟩ (fun i σ G _ ⟨_, _, _, _, h, _⟩ => sql h) ?_ ?_⟩
    · rintro i x σ G hx ⟨x5, ag', rfl, hG, ed, fG⟩
      obtain ⟨k, hk, rfl⟩ := map_at hx
      refine ⟨_, rfl, _, rfl, _, rfl, _, rfl, _, rfl, U, m, _, wk, ag', k, rfl, hG, yU k (List.mem_of_getElem? hk), fun G2 ag2 hG2 f2 => ?_⟩
      refine ⟨_, ag2, rfl, ?_, f2 _ _ ed fun hm => nd du hm rfl, fG.trans f2⟩
      rw [take_more hk, List.foldl_append]
      exact hG2
    · rintro σ G ⟨x5, ag', rfl, hG, ed, fG⟩
      rw [List.length_map, List.take_length, ← ep] at hG
      exact c G ag' hG fG
end
def U44 : List Str := ["a", "b", "ab", "ba", "service web", "service we", "note x", "note xy", "node w1", "node w10", "z", ""]
def key44 (n : Int) : Str := U44.getD (n % 12).toNat ""
theorem key44_at (n : Int) : atI (U44.map V.str) (n % 12) = some (.str (key44 n)) ∧ key44 n ∈ U44 := by
  have h0 := Int.emod_nonneg n (show (12 : Int) ≠ 0 by decide)
  have h1 := Int.emod_lt_of_pos n (show (0 : Int) < 12 by decide)
  obtain ⟨j, hj, e⟩ : ∃ j : Nat, j < 12 ∧ n % 12 = (j : Int) := ⟨(n % 12).toNat, by omega, by omega⟩
  have hl : j < U44.length := by rw [show U44.length = 12 from rfl]; exact hj
  have ek : key44 n = U44[j] := by unfold key44; rw [e, Int.toNat_natCast, List.getD_eq_getElem?_getD, List.getElem?_eq_getElem hl]; rfl
  rw [ek]
  exact ⟨by rw [e]; exact atI_nat (by rw [List.getElem?_map, List.getElem?_eq_getElem hl]; rfl), List.getElem_mem hl⟩
theorem ok44 : ∀ z ∈ U44, PyData.strOk z = true := by decide +kernel
theorem flat_keys {l : List Str} (h : ∀ z ∈ l, z ∈ U44) : SeqAt.shaped (.list (l.map PyData.str)) = true := by
  refine (flat_list (n := 0) fun d hd => ?_).sh (by decide)
  obtain ⟨z, hz, rfl⟩ := List.mem_map.mp hd
  exact flat_str _ _ (ok44 z (h z hz))
theorem flat_pairs {l : List Str} {f : Str → Int} (h : ∀ z ∈ l, z ∈ U44) : SeqAt.shaped (.list (l.map fun s => PyData.tuple [.str s, .int (f s)])) = true := by
  refine (flat_list (n := 1) fun d hd => ?_).sh (by decide)
  obtain ⟨z, hz, rfl⟩ := List.mem_map.mp hd
  refine flat_tup (n := 0) fun d hd => ?_
  simp only [List.mem_cons, List.not_mem_nil, or_false] at hd
  rcases hd with rfl | rfl
  · exact flat_str _ _ (ok44 z (h z hz))
  · exact flat_int _ _
theorem dpa_keys {K : PySem.W.Frag} {H : Hp} : ∀ l : List Str, DpAll K H (l.map V.str) (l.map PyData.str)
  | [] => .nil
  | z :: r => .cons (.str z) (dpa_keys r)
structure W44 (C : Addr) (H : Hp) (most : Int) (a : WP) (m : MP) (q : WQ) (wk ag : List Str) : Prop where
  W : WQAt U44 C H most a q
  M : MAt U44 H m q wk ag
  d : ∀ x ∈ m.all, x ∉ a.all
theorem W44.same {C : Addr} {H H' : Hp} {most : Int} {a : WP} {m : MP} {q : WQ} {wk ag : List Str} (h : W44 C H most a m q wk ag) (s : Same H H') : W44 C H' most a m q wk ag := ⟨h.W.same s, h.M.same s, h.d⟩
def sp_mkey : Sp := fun vs H Q _ => ∃ (n : Int), vs = [.int n] ∧ ∀ H', Same H H' → Q (.str (key44 n)) H'
def sp_mref (C : Addr) : Sp := fun vs H Q _ => ∃ (a : WP) (most : Int) (q : WQ) (k : Str) (fd : Bool), vs = [.ref a.p, .str k, .bl fd] ∧ WQAt U44 C H most a q ∧ q.wk k = none ∧ ∀ H', Same H H' → Q (.bl true) H'
def sp_msame (C : Addr) : Sp := fun vs H Q _ => ∃ (a : WP) (m : MP) (most : Int) (q : WQ) (wk ag : List Str), vs = [.ref a.p, .ref m.w, .ref m.k, .ref m.t, .ref m.f] ∧ W44 C H most a m q wk ag ∧ ∀ H', Same H H' → Q (.bl true) H'
theorem eqD_refl {K : PySem.W.Frag} {H : Hp} {x y : V} {d : PyData} {Q : VK} (h1 : Dp K H x d) (h2 : Dp K H y d) (s : SeqAt.shaped d = true) (q : Q (.bl true) H) : rEqD K x y H Q := ⟨d, d, h1, h2, s, s, by rw [eqv_self s]; exact q⟩
theorem neD_refl {K : PySem.W.Frag} {H : Hp} {x y : V} {d : PyData} {Q : VK} (h1 : Dp K H x d) (h2 : Dp K H y d) (s : SeqAt.shaped d = true) (q : Q (.bl false) H) : rNeD K x y H Q := ⟨d, d, h1, h2, s, s, by rw [eqv_self s]; exact q⟩
section
variable {P : Program} {w : World} {K : PySem.W.Frag} {mg : Str → Option Value} {base : Heap}
theorem ok__law_key (T : TX K mg) : FnOk P w K mg base CX0 1 T.a__law_key T.d__law_key ["number"] sp_mkey := by
  refine T.F__law_key.ok sc__law_key (fun vs H Q E h => ?_) (fun cdv A outer s H vs Q E hr h => ?_)
  · obtain ⟨n, rfl, _⟩ := h
    rfl
  · obtain ⟨n, rfl, q⟩ := h
    refine ⟨_, (pss_cons (ps_set (i := 1) sc__law_key.nd rfl (Or.inl rfl) (pe_lst (pa_cons pe_str (pa_cons pe_str (pa_cons pe_str (pa_cons pe_str (pa_cons pe_str (pa_cons pe_str (pa_cons pe_str (pa_cons pe_str (pa_cons pe_str (pa_cons pe_str (pa_cons pe_str (pa_cons pe_str pa_nil))))))))))))))
      (pss_one (ps_ret (pe_ix ix_list (pv 1) (pe_op op_mod (pe_callTy call_int1 (by rfl) T.n_int (by decide +kernel) (pa_cons (pv 0) pa_nil)) pe_int) (fun _ _ => rfl))))), ?_⟩
    refine ⟨(by show 12 ≤ sizeLine; decide), fun p hp => ?_⟩
    exact ⟨_, rfl, _, rfl, .inl ⟨_, rfl, _, _, rfl, rfl, (by show (0 : Int) < _; decide), p, U44.map V.str, _, _, rfl, rfl, sql upd_same, (key44_at n).1, q _ (same_upd hp)⟩⟩
theorem ok__law_refused (T : TX K mg) : FnOk P w K mg base CX0 5 T.a__law_refused T.d__law_refused ["queue", "key", "failed"] (sp_mref T.a_WorkQueue) := by
  refine T.F__law_refused.ok sc__law_refused (fun vs H Q E h => ?_) (fun cdv A outer s H vs Q E hr h => ?_)
  · obtain ⟨a, most, q, k, fd, rfl, _⟩ := h
    rfl
  · obtain ⟨a, most, q, k, fd, rfl, hW, hn, c⟩ := h
    refine ⟨_, (pss_cons (ps_try_as (i := 3) rfl rfl sc__law_refused.nd rfl rfl ⟨rfl, by decide, .inl T.g_NotTaken⟩ takes0 (fun W pn xe tk po => (pss_one (ps_if (pt_val (pv 2)) (pss_one (ps_expr (pe_methS (pv 0) T.K_WorkQueue T.m_WorkQueue_fail (ok_WorkQueue_fail T) (hr.mono (by decide)) T.b_WorkQueue_fail (fun σ => passAt tk σ) (pa_cons (pv 1) pa_nil)))) (pss_one (ps_expr (pe_methS (pv 0) T.K_WorkQueue T.m_WorkQueue_finish (ok_WorkQueue_finish T) (hr.mono (by decide)) T.b_WorkQueue_finish (fun σ => passAt tk σ) (pa_cons (pv 1) pa_nil))))))) (fun a oe cls d pn hz hf => (pss_one (ps_ret (pe_and (pe_cmpR op_eq (pe_xf T.XF_NotTaken T.na_NotTaken_key hz hf (pv 3)) (pv 1) (nomark _)) (pe_one (pe_callB (call_isEd (D := T.a_NotTaken) hz hf) (by rfl) T.n_isinstance (by decide +kernel) (pa_cons (pv 3) (pa_cons (pe_glob (v := .ref T.a_MajordomoError) (by rfl) T.g_MajordomoError rfl) pa_nil)))))))))
      (pss_one (ps_ret pe_bl))), ?_⟩
    obtain ⟨dx, ob⟩ := hW.ob
    have out : ∀ d, H d = none → Same H (upd H d (.xd [("key", .str k)])) := fun d hd => same_upd hd
    have lk : ([("key", V.str k)] : List (Str × V)).lookup ("key" : Str) = some (.str k) := by simp [List.lookup]
    refine ⟨_, rfl, fd, rfl, ifb2 (fun e => ?_) (fun e => ?_)⟩
    · refine ⟨_, rfl, a.p, dx, _, rfl, ob, fl_WorkQueue_no_fail, _, rfl, U44, a, most, q, k, rfl, hW, .inl ⟨hn, fun d hd => ⟨true, T.ee_NotTaken, fun _ a' ha' => ?_, fun z => Bool.noConfusion z⟩⟩⟩
      refine ⟨_, rfl, rfl, rfl, d, _, .str k, rfl, upd_same, lk, _, rfl, rfl, _, rfl, ifbt (by simp) ?_⟩
      exact ⟨_, rfl, rfl, d, T.a_MajordomoError, _, rfl, upd_same, rfl, T.y_NotTaken_MajordomoError, c _ (out d hd)⟩
    · refine ⟨_, rfl, a.p, dx, _, rfl, ob, fl_WorkQueue_no_finish, _, rfl, U44, a, most, q, k, rfl, hW, .inl ⟨hn, fun d hd => ⟨true, T.ee_NotTaken, fun _ a' ha' => ?_, fun z => Bool.noConfusion z⟩⟩⟩
      refine ⟨_, rfl, rfl, rfl, d, _, .str k, rfl, upd_same, lk, _, rfl, rfl, _, rfl, ifbt (by simp) ?_⟩
      exact ⟨_, rfl, rfl, d, T.a_MajordomoError, _, rfl, upd_same, rfl, T.y_NotTaken_MajordomoError, c _ (out d hd)⟩
theorem ok__law_same (T : TX K mg) : FnOk P w K mg base CX0 2 T.a__law_same T.d__law_same ["queue", "waiting", "work", "delayed", "failures"] (sp_msame T.a_WorkQueue) := by
  refine T.F__law_same.ok sc__law_same (fun vs H Q E h => ?_) (fun cdv A outer s H vs Q E hr h => ?_)
  · obtain ⟨a, m, most, q, wk, ag, rfl, _⟩ := h
    rfl
  · obtain ⟨a, m, most, q, wk, ag, rfl, hW, c⟩ := h
    refine ⟨_, (pss_cons (ps_set (i := 5) sc__law_same.nd rfl (Or.inl rfl) (pe_meth0 (pv 0) T.K_WorkQueue T.m_WorkQueue_waiting (ok_WorkQueue_waiting T) (hr.mono (by decide)) T.b_WorkQueue_waiting .nil pass0))
      (pss_cons (ps_if (PW.pt (pw_or (pt_not (pt_val (pe_callB call_isi (by rfl) T.n_isinstance (by decide +kernel) (pa_cons (pv 5) (pa_cons (pe_bltn (v := .ty "list") (u := .type "list") (by rfl) T.n_list (by decide +kernel) rfl) pa_nil))))) (pw_or1 (pt_cmpR (op_neD hr.units) (pv 5) (pv 1) (nomark _))))) (pss_one (ps_ret pe_bl)) pss_nil)
      (pss_cons (ps_expr (pe_bm PySem.F.plainAttrs_list PySem.F.slot_list_append PySem.F.type_list_append mt_append (pv 5) (pa_cons pe_str pa_nil)))
      (pss_cons (ps_set (i := 5) sc__law_same.nd rfl (Or.inl rfl) (pe_meth0 (pv 0) T.K_WorkQueue T.m_WorkQueue_in_work (ok_WorkQueue_in_work T) (hr.mono (by decide)) T.b_WorkQueue_in_work .nil pass0))
      (pss_cons (ps_if (PW.pt (pw_or (pt_not (pt_val (pe_callB call_isi (by rfl) T.n_isinstance (by decide +kernel) (pa_cons (pv 5) (pa_cons (pe_bltn (v := .ty "list") (u := .type "list") (by rfl) T.n_list (by decide +kernel) rfl) pa_nil))))) (pw_or1 (pt_cmpR (op_neD hr.units) (pv 5) (pe_callB cr_sortedS (by rfl) T.n_sorted (by decide +kernel) (pa_cons (pv 2) pa_nil)) (nomark _))))) (pss_one (ps_ret pe_bl)) pss_nil)
      (pss_cons (ps_expr (pe_bm PySem.F.plainAttrs_list PySem.F.slot_list_append PySem.F.type_list_append mt_append (pv 5) (pa_cons pe_str pa_nil)))
      (pss_cons (ps_setLc (i := 6) (own := [("key", 8)]) (g := gName 8) (tt := tYes) (by rfl) sc__law_same.nd rfl rfl (sw_true rfl rfl rfl (by decide +kernel)) (pi_list (pe_callB cr_sortedS (by rfl) T.n_sorted (by decide +kernel) (pa_cons (pe_callTy (call_list_dK rfl) (by rfl) T.n_list (by decide +kernel) (pa_cons (pv 3) pa_nil)) pa_nil))) (blkOk_by (own := [("key", 8)]) (N := ["queue", "waiting", "work", "delayed", "failures", "told", "pairs", "k", "key"]) (sc := defScope s__law_same) (by decide +kernel)) (fun _ _ _ _ _ => pg_name (i := 8) sc__law_same.nd rfl (Or.inl rfl)) (fun _ _ _ _ _ => pts_nil) (fun _ _ _ _ _ => (pe_tup (pa_cons (pv 8) (pa_cons (pe_dget (hu_of hr) (pv 3) (pv 8) (fun _ _ => rfl)) pa_nil)))))
      (pss_cons (ps_set (i := 5) sc__law_same.nd rfl (Or.inl rfl) (pe_meth0 (pv 0) T.K_WorkQueue T.m_WorkQueue_delayed (ok_WorkQueue_delayed T) (hr.mono (by decide)) T.b_WorkQueue_delayed .nil pass0))
      (pss_cons (ps_if (PW.pt (pw_or (pt_not (pt_val (pe_callB call_isi (by rfl) T.n_isinstance (by decide +kernel) (pa_cons (pv 5) (pa_cons (pe_bltn (v := .ty "list") (u := .type "list") (by rfl) T.n_list (by decide +kernel) rfl) pa_nil))))) (pw_or1 (pt_cmpR (op_neD hr.units) (pv 5) (pv 6) (nomark _))))) (pss_one (ps_ret pe_bl)) pss_nil)
      (pss_cons (ps_expr (pe_bm PySem.F.plainAttrs_list PySem.F.slot_list_append PySem.F.type_list_append mt_append (pv 5) (pa_cons pe_str pa_nil)))
      (pss_cons (ps_for PassesOwn.never rfl (pi_range1 (by rfl) T.n_range (pa_cons pe_int pa_nil)) (pg_name (i := 7) sc__law_same.nd rfl (Or.inl rfl))
        (pss_one (ps_if (pt_cmpR op_ne (pe_meth (pv 0) T.K_WorkQueue T.m_WorkQueue_failures (ok_WorkQueue_failures T) (hr.mono (by decide)) T.b_WorkQueue_failures .nil pass0 (pa_cons (pe_call (ok__law_key T) (hr.mono (by decide)) (by rfl) T.g__law_key T.F__law_key.kp T.b__law_key .nil pass0 (pa_cons (pv 7) pa_nil)) pa_nil)) (pe_dget2 (hu_of hr) (pv 4) (pe_call (ok__law_key T) (hr.mono (by decide)) (by rfl) T.g__law_key T.F__law_key.kp T.b__law_key .nil pass0 (pa_cons (pv 7) pa_nil)) pe_int ⟨rfl, rfl, rfl, rfl⟩) (nomark _)) (pss_one (ps_ret pe_bl)) pss_nil)))
      (pss_one (ps_ret pe_bl))))))))))))), ?_⟩
    obtain ⟨dx, ob⟩ := hW.W.ob
    -- waiting
    refine ⟨_, rfl, a.p, dx, _, rfl, ob, fl_WorkQueue_no_waiting, U44, a, most, q, rfl, hW.W, fun p H1 hp s1 e1 => ?_⟩
    have hW1 := hW.same s1
    have sh : ∀ l : List Str, (∀ z ∈ l, z ∈ U44) → SeqAt.shaped (.list (l.map PyData.str)) = true := fun l h => flat_keys h
    refine ⟨_, rfl, .ref p, .ty "list", .type "list", .type "list", true, rfl, .ty _, tyx_l (sql e1), kit_ty (by decide +kernel), _, rfl, ifbf rfl ?_⟩
    refine ⟨_, rfl, _, rfl, neD_refl (.lst (sql e1) (dpa_keys q.w)) (.lst (sql hW1.M.hw) (dpa_keys q.w)) (sh _ hW1.M.wU) ⟨_, rfl, ifbf rfl ?_⟩⟩
    have wl := hW.M.wl
    refine ⟨_, rfl, .inl ⟨rfl, _, sql e1⟩, p, _, _, rfl, rfl, e1, szl (by rw [List.length_map]; omega), ?_⟩
    have t1 := same_put (o := .lst (q.w.map V.str ++ [.str "spoilt"])) s1 hp
    have hW2 := hW.same t1
    dsimp only [L2.tSeq]
    generalize upd H1 p (.lst (q.w.map V.str ++ [.str "spoilt"])) = H2 at t1 hW2
    clear hW1 s1 e1 hp
    obtain ⟨dx, ob⟩ := hW2.W.ob
    -- in work
    refine ⟨_, rfl, a.p, dx, _, rfl, ob, fl_WorkQueue_no_in_work, U44, a, most, q, rfl, hW2.W, fun ys p H3 hO hp s3 e3 => ?_⟩
    have hW3 := hW2.same s3
    have yU : ∀ z ∈ ys, z ∈ U44 := fun z hz => hW.M.kU z ((hW.M.k1 z).mpr ((hO.2.2 z).mp hz))
    have yl : ys.length ≤ 12 := Nat.le_trans (nd_len hO.1 yU) (by decide)
    have kl := hW.M.kl
    refine ⟨_, rfl, .ref p, .ty "list", .type "list", .type "list", true, rfl, .ty _, tyx_l (sql e3), kit_ty (by decide +kernel), _, rfl, ifbf rfl ?_⟩
    refine ⟨_, rfl, _, rfl, m.k, wk, rfl, sql hW3.M.hk, by omega, fun zs p2 hpz hzs hp2 => ?_⟩
    have ezy : zs = ys := pw_uniq (sorted_pw hzs) (sorted_pw hO.2.1) (nd_perm (hpz.nodup_iff.mpr hW.M.kn) hO.1 fun x => by rw [hpz.mem_iff, hO.2.2, hW.M.k1])
    subst ezy
    have s4 := same_upd (o := .lst (zs.map V.str)) hp2
    refine neD_refl (.lst (sql (s4 _ _ e3)) (dpa_keys zs)) (.lst (sql upd_same) (dpa_keys zs)) (sh _ yU) ⟨_, rfl, ifbf rfl ?_⟩
    have e4 := s4 _ _ e3
    refine ⟨_, rfl, .inl ⟨rfl, _, sql e4⟩, p, _, _, rfl, rfl, e4, szl (by rw [List.length_map]; omega), ?_⟩
    have t2 := same_put (o := .lst (zs.map V.str ++ [.str "spoilt"])) (s3.trans s4) hp
    have hW5 := hW2.same t2
    dsimp only [L2.tSeq]
    generalize upd (upd H3 p2 (.lst (zs.map V.str))) p (.lst (zs.map V.str ++ [.str "spoilt"])) = H5 at t2 hW5
    have u5 := t1.trans t2
    clear hW3 s3 e3 hp s4 e4 hp2 t2
    obtain ⟨k2, ht, dt⟩ := hW5.M.ht
    have l2 := ds_len dt
    -- the pairs
    have ekl : (k2.map fun kv => kV kv.1) = (k2.map fun kv => keyS kv.1).map V.str := by
      rw [List.map_map]
      refine List.map_congr_left fun kv hm => ?_
      obtain ⟨s, _, e⟩ := dt.ks kv hm
      show kV kv.1 = V.str (keyS kv.1)
      rw [e]; rfl
    have u44 : U44.length = 12 := rfl
    refine ⟨_, rfl, m.t, k2, rfl, ht, fun q1 hq1 => ⟨q1, _, rfl, sql (by rw [upd_same, ekl]), (by rw [List.length_map]; omega), fun ds B hpd srt hB => ?_⟩⟩
    have dsm : ∀ z, z ∈ ds ↔ (q.tk z).isSome = true := fun z => by rw [hpd.mem_iff, key_iff dt]
    have dsn : ds.Nodup := hpd.nodup_iff.mpr (keys_nd dt)
    have dsl : ds.length ≤ 12 := by rw [hpd.length_eq, List.length_map]; omega
    have dU : ∀ z ∈ ds, z ∈ U44 := fun z hz => keys_in dt z ((key_iff dt z).mpr ((dsm z).mp hz))
    have s6 := (same_upd (o := .lst (k2.map fun kv => kV kv.1)) hq1).trans (same_upd (o := .lst (ds.map V.str)) hB)
    have hB1 : (upd (upd H5 q1 (.lst (k2.map fun kv => kV kv.1))) B (.lst (ds.map V.str))) B = some (.lst (ds.map V.str)) := upd_same
    generalize upd (upd H5 q1 (.lst (k2.map fun kv => kV kv.1))) B (.lst (ds.map V.str)) = G at s6 hB1
    clear hB hq1
    refine ⟨B, rfl, ⟨_, sql hB1⟩, fun D hD => ?_⟩
    refine lc_list (K := K) (a := B) (xs := ds.map V.str) (fun i H' => ∃ Gx xs, Same G Gx ∧ Same Gx H' ∧ Gx D = none ∧ H' D = some (.lst xs) ∧ DpAll K Gx xs ((ds.take i).map fun s => .tuple [.str s, .int ((q.tk s).getD 0)])) ⟨G, [], Same.refl _, same_upd hD, hD, upd_same, .nil⟩ (fun i H' _ ⟨Gx, xs, h1, h2, _⟩ => sql ((h1.trans h2) _ _ hB1)) (fun i x G' hx ⟨Gx, xs, sa, sb, hDx, hxs, hd⟩ => ?_) (fun G' ⟨Gx, xs, sa, sb, hDx, hxs, hd⟩ => ?_)
    · obtain ⟨y, hy, rfl⟩ := map_at hx
      have s2 := sa.trans sb
      have hym := (dsm y).mp (List.mem_of_getElem? hy)
      obtain ⟨t, ht2⟩ := Option.isSome_iff_exists.mp hym
      have hv : valV k2 (Sum.inr y) = some (.int t) := by rw [dt.vl y, ht2]; rfl
      have hlx : xs.length ≤ 12 := by have := dpa_len hd; rw [List.length_map, List.length_take] at this; omega
      refine ⟨rfl, _, rfl, _, rfl, _, rfl, m.t, .int t, rfl, by rw [← hv]; exact DGet.k (k := Sum.inr y) (s2 _ _ (s6 _ _ ht)), (by show 2 ≤ sizeLine; decide), fun w1 hw1 => ?_⟩
      have s3 := same_upd (o := .tup [.str y, .int t]) hw1
      have nt : w1 ≠ D := fun z => by rw [z, hxs] at hw1; cases hw1
      have hx1 : Gx w1 = none := sb.free hw1
      have s4 := same_upd (o := .tup [.str y, .int t]) hx1
      have hD4 : upd Gx w1 (.tup [.str y, .int t]) D = none := by rw [upd_ne nt.symm]; exact hDx
      refine ⟨xs, s3 _ _ hxs, szl (by omega), upd Gx w1 (.tup [.str y, .int t]), xs ++ [.ref w1], sa.trans s4, same_put (same_both sb) hD4, hD4, upd_same, ?_⟩
      rw [take_more hy, List.map_append]
      refine dpa_app (dpa_same s4 _ hd) (.cons (.tup (sqt upd_same) (.cons (.str _) (.cons ?_ .nil))) .nil)
      rw [ht2]
      exact .int t
    rw [List.length_map, List.take_length] at hd
    have s7 := (s6.trans sa).trans sb
    have hd7 := dpa_same sb _ hd
    have u7 := u5.trans s7
    have hW7 := hW.same u7
    clear hW5 hW2 hd sa sb hDx hB1
    obtain ⟨dx, ob⟩ := hW7.W.ob
    -- delayed
    refine ⟨_, rfl, a.p, dx, _, rfl, ob, fl_WorkQueue_no_delayed, U44, a, most, q, rfl, hW7.W, fun ys p H8 ps hO8 hp s8 e8 hd8 => ?_⟩
    have eyd : ys = ds := ord_uniq hO8 ⟨dsn, srt, dsm⟩
    subst eyd
    have hl8 : ps.length ≤ 12 := by have := dpa_len hd8; rw [List.length_map] at this; omega
    refine ⟨_, rfl, .ref p, .ty "list", .type "list", .type "list", true, rfl, .ty _, tyx_l (sql e8), kit_ty (by decide +kernel), _, rfl, ifbf rfl ?_⟩
    refine ⟨_, rfl, _, rfl, neD_refl (.lst (sql e8) hd8) (.lst (sql (s8 _ _ hxs)) (dpa_same s8 _ hd7)) (flat_pairs dU) ⟨_, rfl, ifbf rfl ?_⟩⟩
    refine ⟨_, rfl, .inl ⟨rfl, _, sql e8⟩, p, _, _, rfl, rfl, e8, szl (by omega), ?_⟩
    have u8 := u7.trans (same_put (o := .lst (ps ++ [.str "spoilt"])) s8 hp)
    dsimp only [L2.tSeq]
    generalize upd H8 p (.lst (ps ++ [.str "spoilt"])) = H9 at u8
    -- failures
    refine ⟨12, rfl, by decide, by decide, for_range (lo := 0) (n := 12) (fun i σ G => ∃ x5 x6 x7 x8, σ = [some (.ref a.p), some (.ref m.w), some (.ref m.k), some (.ref m.t), some (.ref m.f), x5, x6, x7, x8] ∧ Same H G) ⟨_, _, _, _, rfl, u8⟩ ?_ ?_⟩
    · rintro i σ G hi ⟨x5, x6, x7, x8, rfl, sG⟩
      have hWG := hW.same sG
      obtain ⟨dx, ob⟩ := hWG.W.ob
      obtain ⟨k3, hf, df⟩ := hWG.M.hf
      refine ⟨_, rfl, a.p, dx, _, rfl, ob, fl_WorkQueue_no_failures, _, rfl, _, rfl, fun G1 s1 => ⟨U44, a, most, q, key44 _, rfl, (hWG.same s1).W, _, rfl, m.f, rfl, .inl ⟨_, .inl (s1 _ _ hf)⟩, _, rfl, _, rfl, fun G2 s2 => ?_⟩⟩
      have e : (valV k3 (.inr (key44 (0 + (i : Int))))).getD (.int 0) = .int ((q.fl (key44 (0 + (i : Int)))).getD 0) := by rw [df.vl]; cases q.fl (key44 (0 + (i : Int))) <;> rfl
      refine ⟨_, DGet.k (k := .inr (key44 (0 + (i : Int)))) ((s1.trans s2) _ _ hf), ?_⟩
      rw [e]
      exact ⟨rfl, _, rfl, ifbf (by simp) ⟨_, _, _, _, rfl, (sG.trans s1).trans s2⟩⟩
    · rintro σ G ⟨x5, x6, x7, x8, rfl, sG⟩
      exact c G sG
end
def Dj (q : WQ) : Prop := ∀ x ∈ q.w, q.wk x = none
def Bd (q : WQ) (B : Int) : Prop := (∀ x n, q.fl x = some n → 1 ≤ n ∧ n ≤ B) ∧ Dj q
theorem dj_add {q : WQ} (h : Dj q) (k : Str) : Dj (q.add k) := by
  unfold WQ.add
  split
  · next h1 =>
    intro x hx
    have := h x hx
    show setF q.wk k true x = none
    unfold setF
    split
    · next e => rw [e] at this; rw [this] at h1; cases h1
    · exact this
  · next h1 =>
    split
    · exact h
    · intro x hx
      rcases List.mem_append.mp hx with hx | hx
      · exact h x hx
      · rw [List.mem_singleton] at hx
        rw [hx]
        show q.wk k = none
        cases e : q.wk k with
        | none => rfl
        | some _ => rw [e] at h1; exact absurd rfl h1
theorem dj_later {q : WQ} (h : Dj q) (k : Str) (t : Int) : Dj (q.later k t) := by
  unfold WQ.later
  split
  · exact dj_add h k
  · split
    · exact h
    · exact fun x hx => h x hx
theorem dj_fold : ∀ (ys : List Str) {q : WQ}, Dj q → Dj (ys.foldl WQ.add q)
  | [], _, h => h
  | y :: r, _, h => dj_fold r (dj_add h y)
theorem dj_pass {q : WQ} (h : Dj q) (ys : List Str) : Dj (q.pass ys) := by
  rw [pass_eq]
  exact dj_fold ys fun x hx => h x hx
theorem dj_left {q : WQ} (h : Dj q) (k : Str) (f : Str → Option Int) : Dj { q.left k with fl := f } := fun x hx => by
  have := h x hx
  show unsF q.wk k x = none
  unfold unsF
  split
  · rfl
  · exact this
theorem dj_gone {q : WQ} (h : Dj q) (most : Int) (k : Str) (fd : Bool) : Dj (q.gone most k fd) := by
  unfold WQ.gone
  split
  · unfold WQ.bad
    dsimp only
    split
    · exact dj_add (dj_left h k _) k
    · exact dj_later (dj_left h k _) k _
  · unfold WQ.fin
    split
    · exact dj_add (dj_left h k _) k
    · exact dj_left h k _
theorem add_fl (q : WQ) (k : Str) : (q.add k).fl = q.fl := by
  unfold WQ.add
  split
  · rfl
  · split <;> rfl
theorem later_fl (q : WQ) (k : Str) (t : Int) : (q.later k t).fl = q.fl := by
  unfold WQ.later
  split
  · exact add_fl q k
  · split <;> rfl
theorem fold_fl : ∀ (ys : List Str) (q : WQ), (ys.foldl WQ.add q).fl = q.fl
  | [], _ => rfl
  | y :: r, q => by rw [List.foldl_cons, fold_fl r, add_fl]
theorem pass_fl (q : WQ) (ys : List Str) : (q.pass ys).fl = q.fl := by rw [pass_eq, fold_fl]
theorem bd_mono {q : WQ} {B B' : Int} (h : Bd q B) (g : B ≤ B') : Bd q B' := ⟨fun x n e => by have := h.1 x n e; omega, h.2⟩
theorem gone_bd {q : WQ} {most B : Int} {k : Str} {fd : Bool} (h : Bd q B) (hB : 0 ≤ B) : Bd (q.gone most k fd) (B + 1) := by
  have e : (q.gone most k fd).fl = if fd = true then setF q.fl k ((q.fl k).getD 0 + 1) else unsF q.fl k := by
    unfold WQ.gone
    cases fd with
    | true =>
      rw [if_pos rfl, if_pos rfl]
      unfold WQ.bad
      dsimp only
      split
      · rw [add_fl]
      · rw [later_fl]
    | false =>
      rw [if_neg (by decide), if_neg (by decide)]
      unfold WQ.fin
      split
      · rw [add_fl]
      · rfl
  refine ⟨fun x n hx => ?_, dj_gone h.2 most k fd⟩
  rw [e] at hx
  cases fd with
  | true =>
    rw [if_pos rfl] at hx
    unfold setF at hx
    split at hx
    · injection hx with hx
      cases e2 : q.fl k with
      | none => rw [e2] at hx; simp at hx; omega
      | some v => have := h.1 k v e2; rw [e2] at hx; simp at hx; omega
    · have := h.1 x n hx; omega
  | false =>
    rw [if_neg (by decide)] at hx
    unfold unsF at hx
    split at hx
    · cases hx
    · have := h.1 x n hx; omega
def sp_mrep (C : Addr) : Sp := fun vs H Q _ => ∃ (a : WP) (m : MP) (most : Int) (q : WQ) (wk ag : List Str) (k : Str) (fd : Bool) (B : Int), vs = [.ref a.p, .ref m.w, .ref m.k, .ref m.g, .ref m.t, .ref m.f, .int most, .str k, .bl fd] ∧ W44 C H most a m q wk ag ∧ k ∈ U44 ∧ Bd q B ∧ 0 ≤ B ∧ B ≤ 900 ∧ 1 ≤ most ∧ most ≤ 64 ∧
  ∀ H' q' wk' ag', W44 C H' most a m q' wk' ag' → Bd q' (B + 1) → Fr (a.all ++ m.all) H H' → Q (.bl true) H'
section
variable {P : Program} {w : World} {K : PySem.W.Frag} {mg : Str → Option Value} {base : Heap}
theorem ok__law_report (T : TX K mg) : FnOk P w K mg base CX0 6 T.a__law_report T.d__law_report ["queue", "waiting", "work", "again", "delayed", "failures", "most", "key", "failed"] (sp_mrep T.a_WorkQueue) := by
  refine T.F__law_report.ok sc__law_report (fun vs H Q E h => ?_) (fun cdv A outer s H vs Q E hr h => ?_)
  · obtain ⟨a, m, most, q, wk, ag, k, fd, B, rfl, _⟩ := h
    rfl
  · obtain ⟨a, m, most, q, wk, ag, k, fd, B, rfl, hW, hU, hB, B0, B9, m1, m2, c⟩ := h
    refine ⟨_, (pss_cons (ps_if (pt_cmpR op_notIn_seq (pv 7) (pv 2) rfl) (pss_one (ps_ret (pe_call (ok__law_refused T) (hr.mono (by decide)) (by rfl) T.g__law_refused T.F__law_refused.kp T.b__law_refused .nil pass0 (pa_cons (pv 0) (pa_cons (pv 7) (pa_cons (pv 8) pa_nil)))))) pss_nil)
      (pss_cons (ps_set (i := 9) sc__law_report.nd rfl (Or.inl rfl) pe_non)
      (C8.pss_cut (ps_if (pt_val (pv 8)) (pss_one (ps_set (i := 9) sc__law_report.nd rfl (Or.inl rfl) (pe_meth (pv 0) T.K_WorkQueue T.m_WorkQueue_fail (ok_WorkQueue_fail T) (hr.mono (by decide)) T.b_WorkQueue_fail .nil passL (pa_cons (pv 7) pa_nil)))) (pss_one (ps_set (i := 9) sc__law_report.nd rfl (Or.inl rfl) (pe_meth (pv 0) T.K_WorkQueue T.m_WorkQueue_finish (ok_WorkQueue_finish T) (hr.mono (by decide)) T.b_WorkQueue_finish .nil passL (pa_cons (pv 7) pa_nil)))))
      (pss_cons (ps_if (pt_cmpR op_notN (pv 9) pe_non (nomark _)) (pss_one (ps_ret pe_bl)) pss_nil)
      (pss_cons (ps_expr (pe_call (ok__law_leave T) (hr.mono (by decide)) (by rfl) T.g__law_leave T.F__law_leave.kp T.b__law_leave .nil pass0 (pa_cons (pv 1) (pa_cons (pv 2) (pa_cons (pv 3) (pa_cons (pv 4) (pa_cons (pv 5) (pa_cons (pv 6) (pa_cons (pv 7) (pa_cons (pv 8) pa_nil))))))))))
      (pss_one (ps_ret pe_bl))))))), ?_⟩
    refine ⟨_, rfl, _, rfl, m.k, _, rfl, .inl (sql hW.M.hk), rfl, flat_strs _, _, rfl, ?_⟩
    rw [inV_str]
    refine ifn (fun hk => ?_) (fun hk => ?_)
    · have hn : q.wk k = none := by
        cases e : q.wk k with
        | none => rfl
        | some _ => exact absurd ((hW.M.k1 k).mpr (by rw [e]; rfl)) hk
      exact ⟨_, rfl, _, rfl, _, rfl, a, most, q, k, fd, rfl, hW.W, hn, fun H' s' => c H' q wk ag (hW.same s') (bd_mono hB (by omega)) (Fr.of_same s')⟩
    obtain ⟨b, hb⟩ := Option.isSome_iff_exists.mp ((hW.M.k1 k).mp hk)
    obtain ⟨dx, ob⟩ := hW.W.ob
    have hd2 : ∀ x ∈ a.all, x ∉ m.all := fun x hx hm => hW.d x hm hx
    refine ⟨fun σ' G => σ' = [some (.ref a.p), some (.ref m.w), some (.ref m.k), some (.ref m.g), some (.ref m.t), some (.ref m.f), some (.int most), some (.str k), some (.bl fd), some .non] ∧ WQAt U44 T.a_WorkQueue G most a (q.gone most k fd) ∧ Fr a.all H G, ?_, ?_⟩
    · refine ⟨_, rfl, fd, rfl, ifb2 (fun e => ?_) (fun e => ?_)⟩
      · refine ⟨_, rfl, a.p, dx, _, rfl, ob, fl_WorkQueue_no_fail, _, rfl, U44, a, most, q, k, rfl, hW.W, .inr ⟨b, hb, fun x n hx => (hB.1 x n hx).1, m1, m2, fun H' h1 h2 => ⟨rfl, ?_, h2⟩⟩⟩
        unfold WQ.gone
        rw [if_pos e]
        exact h1
      · refine ⟨_, rfl, a.p, dx, _, rfl, ob, fl_WorkQueue_no_finish, _, rfl, U44, a, most, q, k, rfl, hW.W, .inr ⟨b, hb, fun H' h1 h2 => ⟨rfl, ?_, h2⟩⟩⟩
        unfold WQ.gone
        rw [if_neg (by rw [e]; decide)]
        exact h1
    rintro σ' G ⟨rfl, hG, fG⟩
    have hM := hW.M.frame fG hW.d
    refine ⟨_, rfl, rfl, _, rfl, ifbf rfl ?_⟩
    refine ⟨_, rfl, _, rfl, _, rfl, _, rfl, _, rfl, _, rfl, _, rfl, _, rfl, U44, m, q, wk, ag, k, most, fd, b, rfl, hM, hU, hb, (fun x n hx => by have := hB.1 x n hx; omega), m1, m2, fun H' wk' ag' h1 h2 => ?_⟩
    exact c H' _ wk' ag' ⟨hG.frame h2 hd2, h1, hW.d⟩ (gone_bd hB B0) ((fG.more (by intro x hx; simp [hx])).trans (h2.more (by intro x hx; simp [hx])))
end
def sp_mdeed (C : Addr) : Sp := fun vs H Q _ => ∃ (a : WP) (m : MP) (most : Int) (q : WQ) (wk ag : List Str) (n B : Int), vs = [.ref a.p, .ref m.w, .ref m.k, .ref m.g, .ref m.t, .ref m.f, .int most, .int n] ∧ W44 C H most a m q wk ag ∧ Bd q B ∧ 0 ≤ B ∧ B ≤ 900 ∧ 1 ≤ most ∧ most ≤ 64 ∧
  ∀ H' d q' wk' ag', W44 C H' most { a with tt := d } m q' wk' ag' → Bd q' (B + 1) → (d = a.tt ∨ H d = none) → Fr (a.all ++ m.all) H H' → Q (.bl true) H'
theorem FrB.of {a : WP} {m : MP} {H H1 H2 : Hp} (f : Fr a.all H H1) (g : Fr m.all H1 H2) : Fr (a.all ++ m.all) H H2 := (f.more (by intro x hx; simp [hx])).trans (g.more (by intro x hx; simp [hx]))
section
variable {P : Program} {w : World} {K : PySem.W.Frag} {mg : Str → Option Value} {base : Heap}
theorem ok__law_deed (T : TX K mg) : FnOk P w K mg base CX0 7 T.a__law_deed T.d__law_deed ["queue", "waiting", "work", "again", "delayed", "failures", "most", "number"] (sp_mdeed T.a_WorkQueue) := by
  refine T.F__law_deed.ok sc__law_deed (fun vs H Q E h => ?_) (fun cdv A outer s H vs Q E hr h => ?_)
  · obtain ⟨a, m, most, q, wk, ag, n, B, rfl, _⟩ := h
    rfl
  · obtain ⟨a, m, most, q, wk, ag, n, B, rfl, hW, hB, B0, B9, m1, m2, c⟩ := h
    refine ⟨_, (pss_cons (ps_set (i := 8) sc__law_deed.nd rfl (Or.inl rfl) (pe_call (ok__law_key T) (hr.mono (by decide)) (by rfl) T.g__law_key T.F__law_key.kp T.b__law_key .nil pass0 (pa_cons (pe_op op_fdiv (pv 7) pe_int) pa_nil)))
      (pss_cons (ps_set (i := 9) sc__law_deed.nd rfl (Or.inl rfl) (pe_op op_mod (pe_callTy call_int1 (by rfl) T.n_int (by decide +kernel) (pa_cons (pv 7) pa_nil)) pe_int))
      (pss_cons (ps_if (pt_cmpR op_in_seq (pv 9) (pe_tup (pa_cons pe_int (pa_cons pe_int pa_nil))) rfl) (pss_cons (ps_if (pt_cmpR op_notN (pe_meth (pv 0) T.K_WorkQueue T.m_WorkQueue_add (ok_WorkQueue_add T) (hr.mono (by decide)) T.b_WorkQueue_add .nil pass0 (pa_cons (pv 8) pa_nil)) pe_non (nomark _)) (pss_one (ps_ret pe_bl)) pss_nil)
        (pss_one (ps_expr (pe_call (ok__law_add T) (hr.mono (by decide)) (by rfl) T.g__law_add T.F__law_add.kp T.b__law_add .nil pass0 (pa_cons (pv 1) (pa_cons (pv 2) (pa_cons (pv 3) (pa_cons (pv 4) (pa_cons (pv 8) pa_nil))))))))) (pss_one (ps_if (pt_cmpR op_eq (pv 9) pe_int (nomark _)) (pss_cons (ps_set (i := 10) sc__law_deed.nd rfl (Or.inl rfl) (pe_op op_mod (pe_callTy call_int1 (by rfl) T.n_int (by decide +kernel) (pa_cons (pe_op op_fdiv (pv 7) pe_int) pa_nil)) pe_int))
          (pss_cons (ps_if (pt_cmpR op_notN (pe_meth (pv 0) T.K_WorkQueue T.m_WorkQueue_add_later (ok_WorkQueue_add_later T) (hr.mono (by decide)) T.b_WorkQueue_add_later .nil pass0 (pa_cons (pv 8) (pa_cons (pv 10) pa_nil))) pe_non (nomark _)) (pss_one (ps_ret pe_bl)) pss_nil)
          (pss_one (ps_expr (pe_call (ok__law_add_later T) (hr.mono (by decide)) (by rfl) T.g__law_add_later T.F__law_add_later.kp T.b__law_add_later .nil pass0 (pa_cons (pv 1) (pa_cons (pv 2) (pa_cons (pv 3) (pa_cons (pv 4) (pa_cons (pv 8) (pa_cons (pv 10) pa_nil))))))))))) (pss_one (ps_if (pt_cmpR op_in_seq (pv 9) (pe_tup (pa_cons pe_int (pa_cons pe_int pa_nil))) rfl) (pss_cons (ps_set (i := 11) sc__law_deed.nd rfl (Or.inl rfl) pe_non)
            (pss_cons (ps_if (pt_truth (pv 1) (by intro _; rfl)) (pss_cons (ps_set (i := 11) sc__law_deed.nd rfl (Or.inl rfl) (pe_bm PySem.F.plainAttrs_list PySem.F.slot_list_pop PySem.F.type_list_pop mt_popAt (pv 1) (pa_cons pe_int pa_nil)))
              (pss_one (ps_expr (pe_bm PySem.F.plainAttrs_list PySem.F.slot_list_append PySem.F.type_list_append mt_append (pv 2) (pa_cons (pv 11) pa_nil))))) pss_nil)
            (pss_one (ps_ret (pe_cmpR (op_eqD hr.units) (pe_meth0 (pv 0) T.K_WorkQueue T.m_WorkQueue_take (ok_WorkQueue_take T) (hr.mono (by decide)) T.b_WorkQueue_take .nil pass0) (pv 11) (nomark _)))))) (pss_one (ps_if (pt_cmpR op_in_seq (pv 9) (pe_tup (pa_cons pe_int (pa_cons pe_int (pa_cons pe_int (pa_cons pe_int pa_nil))))) rfl) (C8.pss_cut (ps_if (PW.pt (pw_and (pt_cmpR op_gt (pv 9) pe_int (nomark _)) (pw_and1 (pt_truth (pv 2) (by intro _; rfl))))) (pss_one (ps_set (i := 8) sc__law_deed.nd rfl (Or.inl rfl) (pe_ix ix_list (pv 2) (pe_op op_mod (pe_callTy call_int1 (by rfl) T.n_int (by decide +kernel) (pa_cons (pe_op op_fdiv (pv 7) pe_int) pa_nil)) (pe_callB call_len_seq (by rfl) T.n_len PySem.boot_len (pa_cons (pv 2) pa_nil))) (fun _ _ => rfl)))) pss_nil)
              (pss_one (ps_ret (pe_call (ok__law_report T) (hr.mono (by decide)) (by rfl) T.g__law_report T.F__law_report.kp T.b__law_report .nil pass0 (pa_cons (pv 0) (pa_cons (pv 1) (pa_cons (pv 2) (pa_cons (pv 3) (pa_cons (pv 4) (pa_cons (pv 5) (pa_cons (pv 6) (pa_cons (pv 8) (pa_cons (pe_cmpR op_in_seq (pv 9) (pe_tup (pa_cons pe_int (pa_cons pe_int pa_nil))) rfl) pa_nil))))))))))))) (pss_cons (ps_if (pt_cmpR op_notN (pe_meth0 (pv 0) T.K_WorkQueue T.m_WorkQueue_tick (ok_WorkQueue_tick T) (hr.mono (by decide)) T.b_WorkQueue_tick .nil pass0) pe_non (nomark _)) (pss_one (ps_ret pe_bl)) pss_nil)
              (pss_one (ps_expr (pe_call (ok__law_tick T) (hr.mono (by decide)) (by rfl) T.g__law_tick T.F__law_tick.kp T.b__law_tick .nil pass0 (pa_cons (pv 1) (pa_cons (pv 2) (pa_cons (pv 3) (pa_cons (pv 4) pa_nil)))))))))))))))
      (pss_one (ps_ret pe_bl))))), ?_⟩
    refine ⟨_, rfl, _, _, rfl, rfl, ⟨by decide, by decide⟩, _, rfl, fun H0 s0 => ?_⟩
    have hU : key44 (n / 10) ∈ U44 := (key44_at _).2
    have hW0 := hW.same s0
    generalize key44 (n / 10) = k at hU
    refine ⟨_, rfl, .inl ⟨_, rfl, _, _, rfl, rfl, (by show (0 : Int) < _; decide), ?_⟩⟩
    dsimp only
    generalize n % 10 = dd
    refine ⟨_, rfl, (by show 2 ≤ sizeLine; decide), fun t1 h1 => ⟨t1, _, rfl, .inr (sqt upd_same), rfl, rfl, _, rfl, ?_⟩⟩
    have s1 := s0.trans (same_upd (o := .tup [.int 0, .int 1]) h1)
    have hW1 := hW.same s1
    dsimp only
    generalize upd H0 t1 (.tup [.int 0, .int 1]) = H1 at hW1 s1
    clear hW0 s0
    have hd2 : ∀ x ∈ a.all, x ∉ m.all := fun x hx hm => hW.d x hm hx
    refine ifb2 (fun _ => ?_) (fun _ => ?_)
    · obtain ⟨dx, ob⟩ := hW1.W.ob
      refine ⟨_, rfl, a.p, dx, _, rfl, ob, fl_WorkQueue_no_add, _, rfl, U44, a, most, q, k, rfl, hW1.W, hU, fun H2 h2 f2 => ⟨rfl, _, rfl, ifbf rfl ?_⟩⟩
      refine ⟨_, rfl, _, rfl, _, rfl, _, rfl, _, rfl, U44, m, q, wk, ag, k, rfl, hW1.M.frame f2 hW.d, hU, fun H3 ag' h3 f3 => ?_⟩
      exact c H3 a.tt _ wk ag' ⟨h2.frame f3 hd2, h3, hW.d⟩ ⟨by intro x n hx; rw [add_fl] at hx; have := hB.1 x n hx; omega, dj_add hB.2 k⟩ (.inl rfl) ((Fr.of_same s1).trans (FrB.of f2 f3))
    refine ⟨_, rfl, rfl, _, rfl, ifd (fun _ => ?_) (fun _ => ?_)⟩
    · obtain ⟨dx, ob⟩ := hW1.W.ob
      refine ⟨_, rfl, _, _, rfl, rfl, ⟨by decide, by decide⟩, .inl ⟨_, rfl, _, _, rfl, rfl, (by show (0 : Int) < _; decide), ?_⟩⟩
      dsimp only
      generalize n / 120 % 10 = tt
      refine ⟨_, rfl, a.p, dx, _, rfl, ob, fl_WorkQueue_no_add_later, _, rfl, _, rfl, U44, a, most, q, k, tt, rfl, hW1.W, hU, fun H2 h2 f2 => ⟨rfl, _, rfl, ifbf rfl ?_⟩⟩
      refine ⟨_, rfl, _, rfl, _, rfl, _, rfl, _, rfl, _, rfl, U44, m, q, wk, ag, k, tt, rfl, hW1.M.frame f2 hW.d, hU, fun H3 ag' h3 f3 => ?_⟩
      exact c H3 a.tt _ wk ag' ⟨h2.frame f3 hd2, h3, hW.d⟩ ⟨by intro x n hx; rw [later_fl] at hx; have := hB.1 x n hx; omega, dj_later hB.2 k tt⟩ (.inl rfl) ((Fr.of_same s1).trans (FrB.of f2 f3))
    refine ⟨_, rfl, (by show 2 ≤ sizeLine; decide), fun t2 h2 => ⟨t2, _, rfl, .inr (sqt upd_same), rfl, rfl, _, rfl, ?_⟩⟩
    have s2 := s1.trans (same_upd (o := .tup [.int 3, .int 4]) h2)
    have hW2 := hW.same s2
    dsimp only
    generalize upd H1 t2 (.tup [.int 3, .int 4]) = H2 at hW2 s2
    clear hW1 s1
    refine ifb2 (fun _ => ?_) (fun _ => ?_)
    · -- take
      refine ⟨_, rfl, _, .inl ⟨_, sql hW2.M.hw, rfl⟩, ?_⟩
      cases hw : q.w with
      | nil =>
        refine ifbf rfl ?_
        obtain ⟨dx, ob⟩ := hW2.W.ob
        refine ⟨_, rfl, a.p, dx, _, rfl, ob, fl_WorkQueue_no_take, U44, a, most, q, rfl, hW2.W, fun _ => ⟨_, rfl, eqD_refl .non .non rfl ?_⟩, fun k r e => by rw [hw] at e; cases e⟩
        exact c H2 a.tt q wk ag hW2 (bd_mono hB (by omega)) (.inl rfl) (Fr.of_same s2)
      | cons z r =>
        refine ifbt rfl ?_
        have hzw : z ∈ q.w := by rw [hw]; exact List.mem_cons_self
        have hzn : q.wk z = none := hB.2 z hzw
        have hzk : z ∉ wk := fun h => by have := (hW2.M.k1 z).mp h; rw [hzn] at this; cases this
        have hmw := hW2.M.hw
        have hmk := hW2.M.hk
        have kl := hW2.M.kl
        have nd := hW2.M.wn
        rw [hw] at hmw nd
        have nd2 := List.nodup_cons.mp nd
        obtain ⟨a1, a2, a3, a4, a5, a6⟩ := hW2.M.ap
        refine ⟨_, rfl, .inl ⟨rfl, _, sql hmw⟩, m.w, _, _, 0, .str z, rfl, rfl, hmw, by simp, by simp, (ixN_seq (ixn rfl (by simp))).1, rfl, ?_⟩
        have ee : (List.map V.str (z :: r)).eraseIdx 0 = r.map V.str := rfl
        rw [ee]
        have g1 : Fr [m.w, m.k] H2 (upd H2 m.w (.lst (r.map V.str))) := (Fr.refl _ _).up (by simp)
        have k1 : (upd H2 m.w (.lst (r.map V.str))) m.k = some (.lst (wk.map V.str)) := by rw [upd_ne hW2.M.n1.symm]; exact hmk
        refine ⟨_, rfl, .inl ⟨rfl, _, sql k1⟩, _, rfl, m.k, _, _, rfl, rfl, k1, szl (by rw [List.length_map]; omega), ?_⟩
        have g2 : Fr [m.w, m.k] H2 (upd (upd H2 m.w (.lst (r.map V.str))) m.k (.lst (wk.map V.str ++ [.str z]))) := g1.up (by simp)
        have ew : (upd (upd H2 m.w (.lst (r.map V.str))) m.k (.lst (wk.map V.str ++ [.str z]))) m.w = some (.lst (r.map V.str)) := by rw [upd_ne hW2.M.n1, upd_same]
        have ek : (upd (upd H2 m.w (.lst (r.map V.str))) m.k (.lst (wk.map V.str ++ [.str z]))) m.k = some (.lst ((wk ++ [z]).map V.str)) := by rw [upd_same, List.map_append]; rfl
        dsimp only [L2.tRet]
        generalize hGG : upd (upd H2 m.w (.lst (r.map V.str))) m.k (.lst (wk.map V.str ++ [.str z])) = G at g2 ew ek
        have hWG : WQAt U44 T.a_WorkQueue G most a q := hW2.W.frame g2 fun x hx hm => by
          simp only [List.mem_cons, List.not_mem_nil, or_false] at hm
          rcases hm with e | e
          · exact hW.d m.w (by simp [MP.all]) (by rw [← e]; exact hx)
          · exact hW.d m.k (by simp [MP.all]) (by rw [← e]; exact hx)
        obtain ⟨dx, ob⟩ := hWG.ob
        refine ⟨_, rfl, a.p, dx, _, rfl, ob, fl_WorkQueue_no_take, U44, a, most, q, rfl, hWG, fun e => by (rw [hw] at e; cases e), fun k' r' e H5 h5 f5 => ?_⟩
        rw [hw] at e
        obtain ⟨rfl, rfl⟩ : z = k' ∧ r = r' := by cases e; exact ⟨rfl, rfl⟩
        refine ⟨_, rfl, eqD_refl (.str z) (.str z) ((flat_str 0 _ (ok44 z (hW2.M.wU z hzw))).sh (by decide)) ?_⟩
        have hM : MAt U44 H5 m { q with w := r, wk := setF q.wk z false } (wk ++ [z]) ag := by
          have fk : ∀ x ∈ m.all, ∀ o, G x = some o → H5 x = some o := fun x hx o e => f5 x o e (hW.d x hx)
          have ng : m.g ∉ [m.w, m.k] := by simp [hW2.M.n2.symm, hW2.M.n3.symm]
          refine ⟨fk _ (by simp [MP.all]) _ ew, fk _ (by simp [MP.all]) _ ek, fk _ (by simp [MP.all]) _ (g2 _ _ hW2.M.hg ng), (hW2.M.ht.frame g2 (by simp [a1.symm, a3.symm])).frame f5 (hW.d _ (by simp [MP.all])), (hW2.M.hf.frame g2 (by simp [a2.symm, a4.symm])).frame f5 (hW.d _ (by simp [MP.all])), hW2.M.n1, hW2.M.n2, hW2.M.n3, hW2.M.n4, fun x hx => hW2.M.wU x (by rw [hw]; exact List.mem_cons_of_mem _ hx), nd2.2, fun x => ?_, fun x hx => ?_, ?_, fun x => ?_, hW2.M.gn, hW2.M.U12⟩
          · rw [List.mem_append, List.mem_singleton, hW2.M.k1]
            show _ ↔ (setF q.wk z false x).isSome = true
            unfold setF
            by_cases e : x = z <;> simp [e]
          · rcases List.mem_append.mp hx with hx | hx
            · exact hW2.M.kU x hx
            · rw [List.mem_singleton] at hx; rw [hx]; exact hW2.M.wU z hzw
          · exact List.nodup_append.mpr ⟨hW2.M.kn, by simp, fun x hx y hy e => hzk (by rw [List.mem_singleton] at hy; rw [← hy, ← e]; exact hx)⟩
          · rw [hW2.M.g1]
            show _ ↔ setF q.wk z false x = some true
            unfold setF
            by_cases e : x = z
            · rw [if_pos e, e, hzn]; simp
            · rw [if_neg e]
        refine c H5 a.tt { q with w := r, wk := setF q.wk z false } (wk ++ [z]) ag ⟨h5, hM, hW.d⟩ ⟨fun x n hx => by have := hB.1 x n hx; omega, fun x hx => ?_⟩ (.inl rfl) ((Fr.of_same s2).trans ((g2.more (by intro x hx; simp at hx; rcases hx with e | e <;> simp [MP.all, e])).trans (f5.more (by intro x hx; simp [hx]))))
        show setF q.wk z false x = none
        unfold setF
        rw [if_neg fun e => nd2.1 (by rw [← e]; exact hx)]
        exact hB.2 x (by rw [hw]; exact List.mem_cons_of_mem _ hx)
    refine ⟨_, rfl, (by show 4 ≤ sizeLine; decide), fun t3 h3 => ⟨t3, _, rfl, .inr (sqt upd_same), rfl, rfl, _, rfl, ?_⟩⟩
    have s3 := s2.trans (same_upd (o := .tup [.int 5, .int 6, .int 7, .int 8]) h3)
    have hW3 := hW.same s3
    dsimp only
    generalize upd H2 t3 (.tup [.int 5, .int 6, .int 7, .int 8]) = H3 at hW3 s3
    clear hW2 s2
    refine ifb2 (fun _ => ?_) (fun _ => ?_)
    · -- report
      have rep : ∀ G k fd, Same H G → k ∈ U44 → sp_mrep T.a_WorkQueue [.ref a.p, .ref m.w, .ref m.k, .ref m.g, .ref m.t, .ref m.f, .int most, .str k, .bl fd] G Q E0 := fun G k fd sG hk =>
        ⟨a, m, most, q, wk, ag, k, fd, B, rfl, hW.same sG, hk, hB, B0, B9, m1, m2, fun H' q' wk' ag' h1 h2 f => c H' a.tt q' wk' ag' h1 h2 (.inl rfl) ((Fr.of_same sG).trans f)⟩
      refine ⟨fun σ' G => ∃ k, k ∈ U44 ∧ G = H3 ∧ σ' = [some (.ref a.p), some (.ref m.w), some (.ref m.k), some (.ref m.g), some (.ref m.t), some (.ref m.f), some (.int most), some (.int n), some (.str k), some (.int dd), none, none], ?_, ?_⟩
      · refine ⟨_, rfl, _, _, rfl, rfl, _, rfl, ?_⟩
        by_cases h6 : dd > 6
        · refine ifbt (decide_eq_true h6) ⟨_, rfl, _, .inl ⟨_, sql hW3.M.hk, rfl⟩, ?_⟩
          cases hwk : wk with
          | nil => exact ifbf rfl ⟨k, hU, rfl, rfl⟩
          | cons y r =>
            refine ifbt rfl ?_
            have ekk := hW3.M.hk
            have kU := hW3.M.kU
            rw [hwk] at ekk kU
            have hpos : (0 : Int) < (((y :: r).map V.str).length : Int) := by simp
            have b0 := Int.emod_nonneg (n / 10) (Int.ne_of_gt hpos)
            have b1 := Int.emod_lt_of_pos (n / 10) hpos
            obtain ⟨j, hj, ej⟩ : ∃ j : Nat, j < (y :: r).length ∧ n / 10 % (((y :: r).map V.str).length : Int) = (j : Int) := ⟨(n / 10 % (((y :: r).map V.str).length : Int)).toNat, by rw [List.length_map] at b0 b1 ⊢; omega, by omega⟩
            refine ⟨_, rfl, _, rfl, _, _, rfl, rfl, ⟨by decide, by decide⟩, .inl ⟨_, rfl, _, rfl, m.k, _, rfl, .inl (sql ekk), _, _, rfl, rfl, hpos, m.k, _, _, .str ((y :: r)[j]), rfl, rfl, sql ekk, ?_, ?_⟩⟩
            · rw [ej]
              exact atI_nat (by rw [List.getElem?_map, List.getElem?_eq_getElem hj]; rfl)
            · exact ⟨_, kU _ (List.getElem_mem hj), rfl, rfl⟩
        · exact ifbf (decide_eq_false h6) (ifbf rfl ⟨k, hU, rfl, rfl⟩)
      · rintro σ' G ⟨k, hk, eG, rfl⟩
        subst eG
        exact ⟨_, rfl, _, rfl, _, rfl, _, rfl, _, rfl, _, rfl, _, rfl, _, rfl, _, rfl, (by show 2 ≤ sizeLine; decide), fun t4 h4 => ⟨t4, _, rfl, .inr (sqt upd_same), rfl, rfl, rep _ k _ (s3.trans (same_upd h4)) hk⟩⟩
    · -- tick
      obtain ⟨dx, ob⟩ := hW3.W.ob
      refine ⟨_, rfl, a.p, dx, _, rfl, ob, fl_WorkQueue_no_tick, U44, a, most, q, rfl, hW3.W, fun ys d H4 hO hd h4 f4 => ⟨rfl, _, rfl, ifbf rfl ?_⟩⟩
      refine ⟨_, rfl, _, rfl, _, rfl, _, rfl, U44, m, q, wk, ag, ys, rfl, hW3.M.frame f4 hW.d, hO, fun H5 ag' h5 f5 => ?_⟩
      have dm : d ∉ m.all := fun hm => hW3.M.off hd d hm rfl
      have hd3 : ∀ x ∈ ({ a with tt := d } : WP).all, x ∉ m.all := fun x hx => by
        have : x = a.p ∨ x = a.aw ∨ x = a.ak ∨ x = d ∨ x = a.ff := by simpa [WP.all] using hx
        rcases this with e | e | e | e | e
        · exact hd2 x (by simp [WP.all, e])
        · exact hd2 x (by simp [WP.all, e])
        · exact hd2 x (by simp [WP.all, e])
        · rw [e]; exact dm
        · exact hd2 x (by simp [WP.all, e])
      exact c H5 d _ wk ag' ⟨h4.frame f5 hd3, h5, fun x hx hm => hd3 x hm hx⟩ ⟨by intro x n hx; rw [pass_fl] at hx; have := hB.1 x n hx; omega, dj_pass hB.2 ys⟩ (.inr (s3.free hd)) ((Fr.of_same s3).trans (FrB.of f4 f5))
end
/-! the draws of a script: some numbers from 0 to 999 -/
def Drawn (ds : List Int) : Prop := ∀ d ∈ ds, 0 ≤ d ∧ d < 1000
theorem drawn_snoc {ds : List Int} {d : Int} (h : Drawn ds) (h0 : 0 ≤ d) (h1 : d < 1000) : Drawn (ds ++ [d]) := fun e he => by
  rcases List.mem_append.mp he with he | he
  · exact h e he
  · rw [List.mem_singleton] at he
    subst he
    exact ⟨h0, h1⟩
def sp_mix : Sp := fun vs H Q _ => ∃ (c k : Int), vs = [.int c, .int k] ∧ ∀ x : Int, 0 ≤ x → x < 1000 → Q (.int x) H
def sp_row (K : PySem.W.Frag) : Sp := fun vs H Q _ => ∃ (a : Addr) (ns : List Int) (most : Int), vs = [.ref a, .int most] ∧ SqL K H a (ns.map V.int) ∧ ns.length ≤ 63 ∧ 0 ≤ most ∧ most ≤ 1000 ∧
  ∀ (p : Addr) (H' : Hp) (ds : List Int), H p = none → Same H H' → H' p = some (.lst (ds.map V.int)) → Drawn ds → ds.length ≤ most → Q (.ref p) H'
section
variable {P : Program} {w : World} {K : PySem.W.Frag} {mg : Str → Option Value} {base : Heap}
theorem ok__law_mix (T : TX K mg) : FnOk P w K mg base CX0 1 T.a__law_mix T.d__law_mix ["cell", "k"] sp_mix := by
  refine T.F__law_mix.ok sc__law_mix (fun vs H Q E h => ?_) (fun cdv A outer s H vs Q E hr h => ?_)
  · obtain ⟨c, k, rfl, _⟩ := h
    rfl
  · obtain ⟨c, k, rfl, q⟩ := h
    refine ⟨_, (pss_cons (ps_set (i := 2) sc__law_mix.nd rfl (Or.inl rfl) (pe_op op_mod (pe_callTy call_int1 (by rfl) T.n_int (by decide +kernel) (pa_cons (pe_op op_add (pe_op op_add (pe_op op_mul (pv 0) pe_int) (pe_op op_mul (pv 1) pe_int)) pe_int) pa_nil)) pe_int))
      (pss_one (ps_ret (pe_op op_mod (pe_op op_mod (pe_callTy call_int1 (by rfl) T.n_int (by decide +kernel) (pa_cons (pe_op op_add (pe_op op_add (pe_op op_add (pe_op op_mul (pv 2) (pv 2)) (pe_op op_mul (pv 0) pe_int)) (pe_op op_mul (pv 1) pe_int)) pe_int) pa_nil)) pe_int) pe_int)))), ?_⟩
    refine ⟨_, rfl, _, _, rfl, rfl, .inr ⟨by decide, by decide⟩, _, rfl, _, _, rfl, rfl, .inr ⟨by decide, by decide⟩, _, _, rfl, rfl, _, _, rfl, rfl, .inl ⟨_, rfl, _, _, rfl, rfl, (by show (0 : Int) < _; decide), ?_⟩⟩
    dsimp only
    have l0 := Int.emod_nonneg (c * 48271 + k * 69621 + 11) (show (2147483647 : Int) ≠ 0 by decide)
    have l1 := Int.emod_lt_of_pos (c * 48271 + k * 69621 + 11) (show (0 : Int) < 2147483647 by decide)
    generalize (c * 48271 + k * 69621 + 11) % 2147483647 = low at l0 l1
    refine ⟨_, rfl, _, rfl, _, _, rfl, rfl, .inl ⟨by omega, by omega⟩, _, rfl, _, _, rfl, rfl, .inr ⟨by decide, by decide⟩, _, _, rfl, rfl, _, rfl, _, _, rfl, rfl, .inr ⟨by decide, by decide⟩, _, _, rfl, rfl, _, _, rfl, rfl, .inl ⟨_, rfl, _, _, rfl, rfl, (by show (0 : Int) < _; decide), _, _, rfl, rfl, (by show (0 : Int) < _; decide), ?_⟩⟩
    exact q _ (Int.emod_nonneg _ (by decide)) (Int.emod_lt_of_pos _ (by decide))
theorem ok__law_row (T : TX K mg) : FnOk P w K mg base CX0 2 T.a__law_row T.d__law_row ["script", "most"] (sp_row K) := by
  refine T.F__law_row.ok sc__law_row (fun vs H Q E h => ?_) (fun cdv A outer s H vs Q E hr h => ?_)
  · obtain ⟨a, ns, most, rfl, _⟩ := h
    rfl
  · obtain ⟨a, ns, most, rfl, hS, hns, hm0, hm1, q⟩ := h
    refine ⟨_, (pss_cons (ps_set (i := 2) sc__law_row.nd rfl (Or.inl rfl) (pe_lst pa_nil))
      (pss_cons (ps_for PassesOwn.never rfl (pi_range1 (by rfl) T.n_range (pa_cons (pe_callB (call_min2 rfl) (by rfl) T.n_min (by decide +kernel) (pa_cons (pe_callB call_len_seq (by rfl) T.n_len PySem.boot_len (pa_cons (pv 0) pa_nil)) (pa_cons pe_int pa_nil))) pa_nil)) (pg_name (i := 3) sc__law_row.nd rfl (Or.inl rfl))
        (pss_cons (ps_set (i := 4) sc__law_row.nd rfl (Or.inl rfl) (pe_ix ix_list (pv 0) (pv 3) (fun _ _ => rfl)))
        (pss_one (ps_if (pt_cmpR op_ge (pv 4) (pe_op op_pow pe_int pe_int) (nomark _)) (pss_one (ps_for PassesOwn.never rfl (pi_range1 (by rfl) T.n_range (pa_cons pe_int pa_nil)) (pg_name (i := 5) sc__law_row.nd rfl (Or.inl rfl))
            (pss_one (ps_if (PW.pt (pw_and (pt_cmpR op_gt (pv 4) pe_int (nomark _)) (pw_and1 (pt_cmpR op_lt (pe_callB call_len_seq (by rfl) T.n_len PySem.boot_len (pa_cons (pv 2) pa_nil)) (pv 1) (nomark _))))) (pss_cons (ps_expr (pe_bm PySem.F.plainAttrs_list PySem.F.slot_list_append PySem.F.type_list_append mt_append (pv 2) (pa_cons (pe_op op_mod (pe_callTy call_int1 (by rfl) T.n_int (by decide +kernel) (pa_cons (pv 4) pa_nil)) pe_int) pa_nil)))
              (pss_one (ps_set (i := 4) sc__law_row.nd rfl (Or.inl rfl) (pe_op op_fdiv (pv 4) pe_int)))) pss_nil)))) (pss_one (ps_for PassesOwn.never rfl (pi_range1 (by rfl) T.n_range (pa_cons pe_int pa_nil)) (pg_name (i := 5) sc__law_row.nd rfl (Or.inl rfl))
            (pss_one (ps_if (pt_cmpR op_lt (pe_callB call_len_seq (by rfl) T.n_len PySem.boot_len (pa_cons (pv 2) pa_nil)) (pv 1) (nomark _)) (pss_one (ps_expr (pe_bm PySem.F.plainAttrs_list PySem.F.slot_list_append PySem.F.type_list_append mt_append (pv 2) (pa_cons (pe_call (ok__law_mix T) (hr.mono (by decide)) (by rfl) T.g__law_mix T.F__law_mix.kp T.b__law_mix .nil pass0 (pa_cons (pv 4) (pa_cons (pe_op op_add (pe_op op_mul pe_int (pv 5)) (pv 3)) pa_nil))) pa_nil)))) pss_nil))))))))
      (pss_one (ps_ret (pv 2))))), ?_⟩
    refine ⟨Nat.zero_le _, fun o ho => ?_⟩
    have s1 := same_upd (o := .lst []) ho
    have hml : (ns.map V.int).length = ns.length := List.length_map _
    refine ⟨_, rfl, a, _, rfl, .inl (s1.seq hS), _, _, rfl, ?_⟩
    obtain ⟨m, hm, hm63, hmn⟩ : ∃ m : Nat, (if (63 : Int) < ((ns.map V.int).length : Int) then (63 : Int) else ((ns.map V.int).length : Int)) = (m : Int) ∧ m ≤ 63 ∧ m ≤ ns.length := by
      rw [hml]
      refine ⟨min ns.length 63, ?_, by omega, by omega⟩
      split <;> omega
    refine ⟨(m : Int), by rw [← hm], by omega, by omega, for_range (lo := 0) (n := _) (fun i σ H2 => ∃ (ds : List Int) (x3 x4 x5 : Option V), σ = [some (.ref a), some (.int most), some (.ref o), x3, x4, x5] ∧ Same H H2 ∧ H2 o = some (.lst (ds.map V.int)) ∧ Drawn ds ∧ (ds.length : Int) ≤ most)
      ⟨[], none, none, none, rfl, s1, upd_same, (fun _ h => by cases h), hm0⟩ ?_ ?_⟩
    · rintro i σ H2 hi ⟨ds, x3, x4, x5, rfl, g1, g2, g3, g4⟩
      have him : i < m := by omega
      have hg : ns[i]? = some ns[i] := List.getElem?_eq_getElem (by omega)
      have ha : atI (ns.map V.int) (0 + (i : Int)) = some (.int ns[i]) := by rw [Int.zero_add]; exact at_map hg
      generalize ns[i] = c at ha
      refine ⟨_, rfl, _, rfl, a, _, _, _, rfl, rfl, g1.seq hS, ha, ?_⟩
      refine ⟨_, rfl, _, _, rfl, rfl, ⟨by decide, by decide, by decide⟩, _, _, rfl, rfl, _, rfl, ifd (fun hb => ?_) (fun hb => ?_)⟩
      · have hc : 0 ≤ c := by
          have hb' : c ≥ 10 ^ 18 := hb
          omega
        refine ⟨60, rfl, by decide, by decide, for_range (lo := 0) (n := 60) (fun j σ H3 => ∃ (es : List Int) (rest : Int) (x5 : Option V), 0 ≤ rest ∧ σ = [some (.ref a), some (.int most), some (.ref o), some (.int (0 + (i : Int))), some (.int rest), x5] ∧ Same H H3 ∧ H3 o = some (.lst (es.map V.int)) ∧ Drawn es ∧ (es.length : Int) ≤ most)
          ⟨ds, c, x5, hc, rfl, g1, g2, g3, g4⟩ ?_ ?_⟩
        · rintro j σ H3 hj ⟨es, rest, x5, h0, rfl, k1, k2, k3, k4⟩
          refine ⟨_, rfl, _, _, rfl, rfl, _, rfl, ifd (fun hb => ?_) (fun hb => ?_)⟩
          · refine ⟨_, rfl, o, _, rfl, .inl (sql k2), _, rfl, _, _, rfl, rfl, _, rfl, ifd (fun hb2 => ?_) (fun hb2 => ?_)⟩
            · have hb3 : ((es.map V.int).length : Int) < most := hb2
              rw [List.length_map] at hb3
              refine ⟨_, rfl, .inl ⟨rfl, _, sql k2⟩, _, rfl, .inl ⟨_, rfl, _, _, rfl, rfl, (by show (0 : Int) < _; decide), o, _, _, rfl, rfl, k2, szl (by rw [List.length_map]; omega), ?_⟩⟩
              refine ⟨_, rfl, _, _, rfl, rfl, ⟨by decide, by decide⟩, ?_⟩
              refine ⟨es ++ [rest % 1000], rest / 1000, some (.int (0 + (j : Int))), Int.ediv_nonneg h0 (by decide), rfl, same_put k1 ho, ?_, drawn_snoc k3 (Int.emod_nonneg _ (by decide)) (Int.emod_lt_of_pos _ (by decide)), by rw [List.length_append]; simp only [List.length_cons, List.length_nil]; omega⟩
              rw [upd_same, List.map_append]
              rfl
            · exact ⟨es, rest, some (.int (0 + (j : Int))), h0, rfl, k1, k2, k3, k4⟩
          · exact ⟨es, rest, some (.int (0 + (j : Int))), h0, rfl, k1, k2, k3, k4⟩
        · rintro σ H3 ⟨es, rest, x5, h0, rfl, k1, k2, k3, k4⟩
          exact ⟨es, _, _, _, rfl, k1, k2, k3, k4⟩
      · refine ⟨3, rfl, by decide, by decide, for_range (lo := 0) (n := 3) (fun j σ H3 => ∃ (es : List Int) (x5 : Option V), σ = [some (.ref a), some (.int most), some (.ref o), some (.int (0 + (i : Int))), some (.int c), x5] ∧ Same H H3 ∧ H3 o = some (.lst (es.map V.int)) ∧ Drawn es ∧ (es.length : Int) ≤ most)
          ⟨ds, x5, rfl, g1, g2, g3, g4⟩ ?_ ?_⟩
        · rintro j σ H3 hj ⟨es, x5, rfl, k1, k2, k3, k4⟩
          refine ⟨_, rfl, o, _, rfl, .inl (sql k2), _, rfl, _, _, rfl, rfl, _, rfl, ifd (fun hb2 => ?_) (fun hb2 => ?_)⟩
          · have hb3 : ((es.map V.int).length : Int) < most := hb2
            rw [List.length_map] at hb3
            refine ⟨_, rfl, .inl ⟨rfl, _, sql k2⟩, _, rfl, _, rfl, _, _, rfl, rfl, .inl ⟨by decide, by decide⟩, _, rfl, _, _, rfl, rfl, _, _, rfl, fun x hx0 hx1 => ⟨o, _, _, rfl, rfl, k2, szl (by rw [List.length_map]; omega), ?_⟩⟩
            refine ⟨es ++ [x], some (.int (0 + (j : Int))), rfl, same_put k1 ho, ?_, drawn_snoc k3 hx0 hx1, by rw [List.length_append]; simp only [List.length_cons, List.length_nil]; omega⟩
            rw [upd_same, List.map_append]
            rfl
          · exact ⟨es, some (.int (0 + (j : Int))), rfl, k1, k2, k3, k4⟩
        · rintro σ H3 ⟨es, x5, rfl, k1, k2, k3, k4⟩
          exact ⟨es, _, _, _, rfl, k1, k2, k3, k4⟩
    · rintro σ H2 ⟨ds, x3, x4, x5, rfl, g1, g2, g3, g4⟩
      exact ⟨_, rfl, q o _ ds ho g1 g2 g3 g4⟩
end
def sp_law (K : PySem.W.Frag) : Sp := fun vs H Q _ => ∃ (a : Addr) (ns : List Int), vs = [.ref a] ∧ SqL K H a (ns.map V.int) ∧ ns.length ≤ 63 ∧ ∀ H', Q (.bl true) H'
def q0 : WQ := ⟨[], fun _ => none, fun _ => none, fun _ => none⟩
theorem same_new {H H' : Hp} {p dx : Addr} {o u : HO} (hp : H p = none) (hd : H dx = none) (f : Fr [p] (upd (upd H dx o) p u) H') : Same H H' := fun x v hx => by
  have n1 : x ≠ p := ne_of_none hx hp
  refine f x v ?_ (by simp [n1])
  rw [upd_ne n1, upd_ne (ne_of_none hx hd)]
  exact hx
theorem wq_some {U : List Str} {C : Addr} {H : Hp} {most : Int} {a : WP} {q : WQ} (h : WQAt U C H most a q) : ∀ x ∈ a.all, ∃ o, H x = some o := fun x hx => by
  obtain ⟨⟨dx, ob⟩, hw, ⟨k1, hk, _⟩, ⟨k2, ht, _⟩, ⟨k3, hf, _⟩, _⟩ := h
  have : x = a.p ∨ x = a.aw ∨ x = a.ak ∨ x = a.tt ∨ x = a.ff := by simpa [WP.all] using hx
  rcases this with rfl | rfl | rfl | rfl | rfl
  · exact ⟨_, ob⟩
  · exact ⟨_, hw⟩
  · exact ⟨_, hk⟩
  · exact ⟨_, ht⟩
  · exact ⟨_, hf⟩
theorem m_some {U : List Str} {H : Hp} {m : MP} {q : WQ} {wk ag : List Str} (h : MAt U H m q wk ag) : ∀ x ∈ m.all, ∃ o, H x = some o := fun x hx => by
  cases e : H x with
  | some o => exact ⟨o, rfl⟩
  | none => exact absurd rfl (h.off e x hx)
theorem r_off {C : Addr} {G : Hp} {most : Int} {a : WP} {m : MP} {q : WQ} {wk ag : List Str} {r : Addr} {xs : List V} (h : W44 C G most a m q wk ag) (e : G r = some (.lst xs)) (n0 : r ≠ a.aw) (n1 : r ≠ m.w) (n2 : r ≠ m.k) (n3 : r ≠ m.g) : r ∉ a.all ++ m.all := fun hm => by
  obtain ⟨⟨dx, ob⟩, hw, ⟨k1, hk, _⟩, ⟨k2, ht, _⟩, ⟨k3, hf, _⟩, _⟩ := h.W
  obtain ⟨k4, ht4, _⟩ := h.M.ht
  obtain ⟨k5, hf5, _⟩ := h.M.hf
  have : r = a.p ∨ r = a.aw ∨ r = a.ak ∨ r = a.tt ∨ r = a.ff ∨ r = m.w ∨ r = m.k ∨ r = m.g ∨ r = m.t ∨ r = m.f := by simpa [WP.all, MP.all, or_assoc] using hm
  rcases this with rfl | z | rfl | rfl | rfl | z | z | z | rfl | rfl
  · rw [ob] at e; cases e
  · exact n0 z
  · rw [hk] at e; cases e
  · rw [ht] at e; cases e
  · rw [hf] at e; cases e
  · exact n1 z
  · exact n2 z
  · exact n3 z
  · rw [ht4] at e; cases e
  · rw [hf5] at e; cases e
section
variable {P : Program} {w : World} {K : PySem.W.Frag} {mg : Str → Option Value} {base : Heap}
theorem ok_law (T : TX K mg) : FnOk P w K mg base CX0 8 T.a_law T.d_law ["script"] (sp_law K) := by
  refine T.F_law.ok sc_law (fun vs H Q E h => ?_) (fun cdv A outer s H vs Q E hr h => ?_)
  · obtain ⟨a, ns, rfl, _⟩ := h
    rfl
  · obtain ⟨A0, ns, rfl, hS, hns, q⟩ := h
    refine ⟨_, (pss_cons (ps_set (i := 1) sc_law.nd rfl (Or.inl rfl) pe_int)
      (pss_cons (ps_set (i := 2) sc_law.nd rfl (Or.inl rfl) (pe_make0 T.M_WorkQueue (ok_WorkQueue___init__ T) (hr.mono (by decide)) (by rfl) T.g_WorkQueue T.bD_WorkQueue___init__.choose_spec.2 T.bD_WorkQueue___init__.choose_spec.1 pass0))
      (C8.pss_cut (ps_if (PW.pt (pw_and (pt_truth (pv 0) (by intro _; rfl)) (pw_and1 (pt_cmpR op_gt (pe_op op_mod (pe_callTy call_int1 (by rfl) T.n_int (by decide +kernel) (pa_cons (pe_ix ix_list (pv 0) pe_int (fun _ _ => rfl)) pa_nil)) pe_int) pe_int (nomark _))))) (pss_cons (ps_set (i := 1) sc_law.nd rfl (Or.inl rfl) (pe_op op_add pe_int (pe_op op_mod (pe_op op_fdiv (pe_callTy call_int1 (by rfl) T.n_int (by decide +kernel) (pa_cons (pe_ix ix_list (pv 0) pe_int (fun _ _ => rfl)) pa_nil)) pe_int) pe_int)))
        (pss_one (ps_set (i := 2) sc_law.nd rfl (Or.inl rfl) (pe_makeK0 T.M_WorkQueue (ok_WorkQueue___init__ T) (hr.mono (by decide)) (by rfl) T.g_WorkQueue T.kb_WorkQueue___init__.choose_spec pass0 (pk_cons (pv 1) pk_nil))))) pss_nil)
      (pss_cons (ps_set (i := 3) sc_law.nd rfl (Or.inl rfl) (pe_lst pa_nil))
      (pss_cons (ps_set (i := 4) sc_law.nd rfl (Or.inl rfl) (pe_lst pa_nil))
      (pss_cons (ps_set (i := 5) sc_law.nd rfl (Or.inl rfl) (pe_lst pa_nil))
      (pss_cons (ps_set (i := 6) sc_law.nd rfl (Or.inl rfl) pe_dnewK)
      (pss_cons (ps_set (i := 7) sc_law.nd rfl (Or.inl rfl) pe_dnewK)
      (pss_cons (ps_for PassesOwn.never rfl (pi_list (pe_call (ok__law_row T) (hr.mono (by decide)) (by rfl) T.g__law_row T.F__law_row.kp T.b__law_row .nil pass0 (pa_cons (pv 0) (pa_cons pe_int pa_nil)))) (pg_name (i := 8) sc_law.nd rfl (Or.inl rfl))
        (pss_cons (ps_if (pt_not (pt_val (pe_call (ok__law_deed T) (hr.mono (by decide)) (by rfl) T.g__law_deed T.F__law_deed.kp T.b__law_deed .nil pass0 (pa_cons (pv 2) (pa_cons (pv 3) (pa_cons (pv 4) (pa_cons (pv 5) (pa_cons (pv 6) (pa_cons (pv 7) (pa_cons (pv 1) (pa_cons (pv 8) pa_nil))))))))))) (pss_one (ps_ret pe_bl)) pss_nil)
        (pss_one (ps_if (pt_not (pt_val (pe_call (ok__law_same T) (hr.mono (by decide)) (by rfl) T.g__law_same T.F__law_same.kp T.b__law_same .nil pass0 (pa_cons (pv 2) (pa_cons (pv 3) (pa_cons (pv 4) (pa_cons (pv 6) (pa_cons (pv 7) pa_nil)))))))) (pss_one (ps_ret pe_bl)) pss_nil))))
      (pss_cons (ps_set (i := 9) sc_law.nd rfl (Or.inl rfl) (pe_make0 T.M_WorkQueue (ok_WorkQueue___init__ T) (hr.mono (by decide)) (by rfl) T.g_WorkQueue T.bD_WorkQueue___init__.choose_spec.2 T.bD_WorkQueue___init__.choose_spec.1 pass0))
      (pss_cons (ps_expr (pe_meth (pv 9) T.K_WorkQueue T.m_WorkQueue_add (ok_WorkQueue_add T) (hr.mono (by decide)) T.b_WorkQueue_add .nil pass0 (pa_cons pe_str pa_nil)))
      (pss_one (ps_ret (pe_and (pe_cmpR (op_eqD hr.units) (pe_meth0 (pv 9) T.K_WorkQueue T.m_WorkQueue_waiting (ok_WorkQueue_waiting T) (hr.mono (by decide)) T.b_WorkQueue_waiting .nil pass0) (pe_lst (pa_cons pe_str pa_nil)) (nomark _)) (pe_one (pe_call (ok__law_same T) (hr.mono (by decide)) (by rfl) T.g__law_same T.F__law_same.kp T.b__law_same .nil pass0 (pa_cons (pv 2) (pa_cons (pv 3) (pa_cons (pv 4) (pa_cons (pv 6) (pa_cons (pv 7) pa_nil))))))))))))))))))))), ?_⟩
    have u : U44.length ≤ 12 := by decide
    refine fun p dx hp hdx npdx => ⟨p, dx, 8, rfl, upd_same, fun a H1 ea n1 n2 n3 n4 hW f1 => ⟨rfl, ?_⟩⟩
    have s1 := same_new hp hdx f1
    subst ea
    refine ⟨fun σ' G => ∃ (a : WP) (most : Int), σ' = [some (.ref A0), some (.int most), some (.ref a.p), none, none, none, none, none, none, none] ∧ 1 ≤ most ∧ most ≤ 64 ∧ WQAt U44 T.a_WorkQueue G most a q0 ∧ Same H G, ?_, ?_⟩
    · refine ⟨_, rfl, _, .inl ⟨_, s1.seq hS, rfl⟩, ?_⟩
      cases ns with
      | nil => exact ifbf rfl (ifbf rfl ⟨a, 8, rfl, by decide, by decide, hW _ u, s1⟩)
      | cons c r =>
        refine ifbt rfl ?_
        refine ⟨_, rfl, A0, _, 0, .int c, rfl, rfl, s1.seq hS, at_map (i := 0) rfl, .inl ⟨_, rfl, _, _, rfl, rfl, (by show (0 : Int) < _; decide), _, _, rfl, rfl, _, rfl, ?_⟩⟩
        have b0 := Int.emod_nonneg (c / 4) (show (64 : Int) ≠ 0 by decide)
        have b1 := Int.emod_lt_of_pos (c / 4) (show (0 : Int) < 64 by decide)
        refine ifd (fun _ => ?_) (fun _ => ⟨a, 8, rfl, by decide, by decide, hW _ u, s1⟩)
        refine ⟨_, rfl, A0, _, 0, .int c, rfl, rfl, s1.seq hS, at_map (i := 0) rfl, .inl ⟨_, rfl, _, _, rfl, rfl, ⟨by decide, by decide⟩, _, _, rfl, rfl, (by show (0 : Int) < _; decide), _, _, rfl, rfl, _, rfl, rfl, rfl, fun p2 dx2 hp2 hdx2 npdx2 => ⟨p2, dx2, 1 + c / 4 % 64, rfl, upd_same, fun a2 H2 ea2 _ _ _ _ hW2 f2 => ⟨rfl, ?_⟩⟩⟩⟩
        subst ea2
        exact ⟨a2, 1 + c / 4 % 64, rfl, by omega, by omega, hW2 _ u, s1.trans (same_new hp2 hdx2 f2)⟩
    rintro σ' G ⟨a, most, rfl, m1, m2, hW, s2⟩
    clear hp hdx npdx f1 s1 n1 n2 n3 n4
    refine ⟨Nat.zero_le _, fun w1 hw1 => ⟨Nat.zero_le _, fun w2 hw2 => ⟨Nat.zero_le _, fun w3 hw3 => ?_⟩⟩⟩
    refine fun w4 hw4 => fun w5 hw5 => ?_
    have t1 := same_upd (o := .lst []) hw1
    have t2 := same_upd (o := .lst []) hw2
    have t3 := same_upd (o := .lst []) hw3
    have t4 := same_upd (o := .dK []) hw4
    have t5 := same_upd (o := .dK []) hw5
    have n12 : w1 ≠ w2 := fun z => by rw [← z, upd_same] at hw2; cases hw2
    have n13 : w1 ≠ w3 := ne_of_none (t2 _ _ (upd_same (H := G) (a := w1) (o := .lst []))) hw3
    have n23 : w2 ≠ w3 := fun z => by rw [← z, upd_same] at hw3; cases hw3
    have n45 : w4 ≠ w5 := fun z => by rw [← z, upd_same] at hw5; cases hw5
    have z2 := t1.free hw2
    have z3 := (t1.trans t2).free hw3
    have z4 := ((t1.trans t2).trans t3).free hw4
    have z5 := (((t1.trans t2).trans t3).trans t4).free hw5
    have s3 := (((t1.trans t2).trans t3).trans t4).trans t5
    have e1 := (((t2.trans t3).trans t4).trans t5) _ _ (upd_same (H := G) (a := w1) (o := .lst []))
    have e2 := ((t3.trans t4).trans t5) _ _ (upd_same (a := w2) (o := .lst []))
    have e3 := (t4.trans t5) _ _ (upd_same (a := w3) (o := .lst []))
    have e4 := t5 _ _ (upd_same (a := w4) (o := .dK []))
    have e5 : (upd (upd (upd (upd (upd G w1 (.lst [])) w2 (.lst [])) w3 (.lst [])) w4 (.dK [])) w5 (.dK [])) w5 = some (.dK []) := upd_same
    dsimp only [L2.tSeq]
    generalize upd (upd (upd (upd (upd G w1 (.lst [])) w2 (.lst [])) w3 (.lst [])) w4 (.dK [])) w5 (.dK []) = G5 at s3 e1 e2 e3 e4 e5
    have hM : MAt U44 G5 ⟨w1, w2, w3, w4, w5⟩ q0 [] [] := ⟨e1, e2, e3, ⟨[], e4, ds_nil⟩, ⟨[], e5, ds_nil⟩, n12, n13, n23, n45, (fun _ h => by cases h), List.nodup_nil, (fun x => by simp [q0]), (fun _ h => by cases h), List.nodup_nil, (fun x => by simp [q0]), List.nodup_nil, u⟩
    have hV : W44 T.a_WorkQueue G5 most a ⟨w1, w2, w3, w4, w5⟩ q0 [] [] := ⟨hW.same s3, hM, fun x hx hm => by
      obtain ⟨o, ho⟩ := wq_some hW x hm
      have : x = w1 ∨ x = w2 ∨ x = w3 ∨ x = w4 ∨ x = w5 := by simpa [MP.all] using hx
      rcases this with rfl | rfl | rfl | rfl | rfl
      · rw [hw1] at ho; cases ho
      · rw [z2] at ho; cases ho
      · rw [z3] at ho; cases ho
      · rw [z4] at ho; cases ho
      · rw [z5] at ho; cases ho⟩
    have sA := s2.trans s3
    clear t1 t2 t3 t4 t5 e1 e2 e3 e4 e5 hM
    refine ⟨_, rfl, A0, ns, 200, rfl, sA.seq hS, hns, by decide, by decide, fun r G2 ds hr s4 er hD hl => ?_⟩
    have hV2 := hV.same s4
    have nr0 : r ≠ a.aw := fun z => by rw [z, hV.W.hw] at hr; cases hr
    have nr1 : r ≠ w1 := fun z => by have := hV.M.hw; rw [z, this] at hr; cases hr
    have nr2 : r ≠ w2 := fun z => by have := hV.M.hk; rw [z, this] at hr; cases hr
    have nr3 : r ≠ w3 := fun z => by have := hV.M.hg; rw [z, this] at hr; cases hr
    have hB0 : Bd q0 0 := ⟨(fun x n hx => by cases hx), (fun x hx => by cases hx)⟩
    refine ⟨r, rfl, ⟨_, sql er⟩, for_list (K := K) (a := r) (xs := ds.map V.int) (fun i σ G => ∃ (d : Addr) (q' : WQ) (wk ag : List Str) (x8 x9 : Option V), σ = [some (.ref A0), some (.int most), some (.ref a.p), some (.ref w1), some (.ref w2), some (.ref w3), some (.ref w4), some (.ref w5), x8, x9] ∧ W44 T.a_WorkQueue G most { a with tt := d } ⟨w1, w2, w3, w4, w5⟩ q' wk ag ∧ Bd q' (i : Int) ∧ G r = some (.lst (ds.map V.int)))
      ⟨a.tt, q0, [], [], none, none, rfl, hV2, hB0, er⟩ (fun i σ G _ ⟨_, _, _, _, _, _, _, _, _, e⟩ => sql e) ?_ ?_⟩
    · rintro i x σ G3 hx ⟨d, q', wk, ag, x8, x9, rfl, hW3, hB3, e⟩
      obtain ⟨n, hn, rfl⟩ := map_at hx
      have hi : i < ds.length := (List.getElem?_eq_some_iff.mp hn).1
      refine ⟨_, rfl, _, rfl, _, rfl, _, rfl, _, rfl, _, rfl, _, rfl, _, rfl, { a with tt := d }, ⟨w1, w2, w3, w4, w5⟩, most, q', wk, ag, n, (i : Int), rfl, hW3, hB3, by omega, by omega, m1, m2, fun G4 d2 q2 wk2 ag2 hW4 hB4 _ f4 => ⟨_, rfl, ifbf rfl ?_⟩⟩
      have e4 := f4 _ _ e (r_off hW3 e nr0 nr1 nr2 nr3)
      refine ⟨_, rfl, _, rfl, _, rfl, _, rfl, _, rfl, { a with tt := d2 }, ⟨w1, w2, w3, w4, w5⟩, most, q2, wk2, ag2, rfl, hW4, fun G5 s5 => ⟨_, rfl, ifbf rfl ?_⟩⟩
      exact ⟨d2, q2, wk2, ag2, _, _, rfl, hW4.same s5, hB4, s5 _ _ e4⟩
    rintro σ G3 ⟨d, q', wk, ag, x8, x9, rfl, hW3, hB3, e⟩
    -- another queue
    refine fun p2 dx2 hp2 hdx2 npdx2 => ⟨p2, dx2, 8, rfl, upd_same, fun a2 G4 ea2 o1 o2 o3 o4 hQ2 f2 => ⟨rfl, ?_⟩⟩
    subst ea2
    have sN := same_new (H' := upd (upd G3 dx2 (.own a2.p)) a2.p (.ins T.a_WorkQueue dx2 [])) hp2 hdx2 (Fr.refl _ _)
    have s6 := same_new hp2 hdx2 f2
    have off2 : ∀ x o, G3 x = some o → x ∉ a2.all := fun x o hx hm => by
      have hx2 := sN _ _ hx
      have : x = a2.p ∨ x = a2.aw ∨ x = a2.ak ∨ x = a2.tt ∨ x = a2.ff := by simpa [WP.all] using hm
      rcases this with rfl | rfl | rfl | rfl | rfl
      · rw [hp2] at hx; cases hx
      · rw [o1] at hx2; cases hx2
      · rw [o2] at hx2; cases hx2
      · rw [o3] at hx2; cases hx2
      · rw [o4] at hx2; cases hx2
    have hQ := hQ2 U44 u
    obtain ⟨dx3, ob3⟩ := hQ.ob
    refine ⟨_, rfl, a2.p, dx3, _, rfl, ob3, fl_WorkQueue_no_add, U44, a2, 8, _, "a", rfl, hQ, by decide +kernel, fun G5 h5 f5 => ?_⟩
    have hW5 : W44 T.a_WorkQueue G5 most { a with tt := d } ⟨w1, w2, w3, w4, w5⟩ q' wk ag := by
      have hW4 := hW3.same s6
      refine ⟨hW4.W.frame f5 fun x hx => ?_, hW4.M.frame f5 fun x hx => ?_, hW4.d⟩
      · obtain ⟨o, ho⟩ := wq_some hW3.W x hx
        exact off2 x o ho
      · obtain ⟨o, ho⟩ := m_some hW3.M x hx
        exact off2 x o ho
    obtain ⟨dx4, ob4⟩ := h5.ob
    have ew : (({ w := [], wk := fun _ => none, tk := fun _ => none, fl := fun _ => none } : WQ).add "a").w = [("a" : Str)] := by simp [WQ.add]
    refine ⟨_, rfl, a2.p, dx4, _, rfl, ob4, fl_WorkQueue_no_waiting, U44, a2, 8, _, rfl, h5, fun p3 G6 hp3 s7 e7 => ⟨(by show 1 ≤ sizeLine; decide), fun l hl => ?_⟩⟩
    rw [ew] at e7
    have s8 := same_upd (o := .lst [.str "a"]) hl
    refine eqD_refl (.lst (sql (s8 _ _ e7)) (dpa_keys [("a" : Str)])) (.lst (sql upd_same) (dpa_keys [("a" : Str)])) (flat_keys (by decide +kernel)) ?_
    refine ⟨_, rfl, ifbt rfl ?_⟩
    exact ⟨_, rfl, _, rfl, _, rfl, _, rfl, _, rfl, { a with tt := d }, ⟨w1, w2, w3, w4, w5⟩, most, q', wk, ag, rfl, hW5.same (s7.trans s8), fun H' _ => q _⟩
end
theorem all_mk {l : PySem.W.OpenLaw} {w : World} {K : PySem.W.Frag} {h : Heap} {mg : Str → Option Value} {fa : Addr} (X : K.In h) (G : h.Ns mainGlobals mg) (hfa : mg "law" = some (.ref fa))
    {e_MajordomoError : Addr} {e_CallerError : Addr} {e_NotTaken : Addr} {C_WorkQueue : Addr} {f_NotTaken___init__ : Addr} {od_NotTaken___init__ an_NotTaken___init__ : Option Addr} {sl_NotTaken___init__ : Array (Option Value)} {oc_NotTaken___init__ kV_NotTaken___init__ dc_NotTaken___init__ pm_NotTaken___init__ cd_NotTaken___init__ ct_NotTaken___init__ : Value} {f_WorkQueue___init__ : Addr} {od_WorkQueue___init__ an_WorkQueue___init__ : Option Addr} {sl_WorkQueue___init__ : Array (Option Value)} {oc_WorkQueue___init__ dc_WorkQueue___init__ pm_WorkQueue___init__ cd_WorkQueue___init__ ct_WorkQueue___init__ : Value} {kD_WorkQueue___init__ : Addr} {kt_WorkQueue___init___most : Tok} {f_WorkQueue_add : Addr} {od_WorkQueue_add an_WorkQueue_add : Option Addr} {sl_WorkQueue_add : Array (Option Value)} {oc_WorkQueue_add kV_WorkQueue_add dc_WorkQueue_add pm_WorkQueue_add cd_WorkQueue_add ct_WorkQueue_add : Value} {f_WorkQueue_add_later : Addr} {od_WorkQueue_add_later an_WorkQueue_add_later : Option Addr} {sl_WorkQueue_add_later : Array (Option Value)} {oc_WorkQueue_add_later kV_WorkQueue_add_later dc_WorkQueue_add_later pm_WorkQueue_add_later cd_WorkQueue_add_later ct_WorkQueue_add_later : Value} {f_WorkQueue_tick : Addr} {od_WorkQueue_tick an_WorkQueue_tick : Option Addr} {sl_WorkQueue_tick : Array (Option Value)} {oc_WorkQueue_tick kV_WorkQueue_tick dc_WorkQueue_tick pm_WorkQueue_tick cd_WorkQueue_tick ct_WorkQueue_tick : Value} {f_WorkQueue_take : Addr} {od_WorkQueue_take an_WorkQueue_take : Option Addr} {sl_WorkQueue_take : Array (Option Value)} {oc_WorkQueue_take kV_WorkQueue_take dc_WorkQueue_take pm_WorkQueue_take cd_WorkQueue_take ct_WorkQueue_take : Value} {f_WorkQueue_finish : Addr} {od_WorkQueue_finish an_WorkQueue_finish : Option Addr} {sl_WorkQueue_finish : Array (Option Value)} {oc_WorkQueue_finish kV_WorkQueue_finish dc_WorkQueue_finish pm_WorkQueue_finish cd_WorkQueue_finish ct_WorkQueue_finish : Value} {f_WorkQueue_fail : Addr} {od_WorkQueue_fail an_WorkQueue_fail : Option Addr} {sl_WorkQueue_fail : Array (Option Value)} {oc_WorkQueue_fail kV_WorkQueue_fail dc_WorkQueue_fail pm_WorkQueue_fail cd_WorkQueue_fail ct_WorkQueue_fail : Value} {f_WorkQueue__leave : Addr} {od_WorkQueue__leave an_WorkQueue__leave : Option Addr} {sl_WorkQueue__leave : Array (Option Value)} {oc_WorkQueue__leave kV_WorkQueue__leave dc_WorkQueue__leave pm_WorkQueue__leave cd_WorkQueue__leave ct_WorkQueue__leave : Value} {f_WorkQueue__delay : Addr} {od_WorkQueue__delay an_WorkQueue__delay : Option Addr} {sl_WorkQueue__delay : Array (Option Value)} {oc_WorkQueue__delay kV_WorkQueue__delay dc_WorkQueue__delay pm_WorkQueue__delay cd_WorkQueue__delay ct_WorkQueue__delay : Value} {f_WorkQueue_waiting : Addr} {od_WorkQueue_waiting an_WorkQueue_waiting : Option Addr} {sl_WorkQueue_waiting : Array (Option Value)} {oc_WorkQueue_waiting kV_WorkQueue_waiting dc_WorkQueue_waiting pm_WorkQueue_waiting cd_WorkQueue_waiting ct_WorkQueue_waiting : Value} {f_WorkQueue_in_work : Addr} {od_WorkQueue_in_work an_WorkQueue_in_work : Option Addr} {sl_WorkQueue_in_work : Array (Option Value)} {oc_WorkQueue_in_work kV_WorkQueue_in_work dc_WorkQueue_in_work pm_WorkQueue_in_work cd_WorkQueue_in_work ct_WorkQueue_in_work : Value} {f_WorkQueue_delayed : Addr} {od_WorkQueue_delayed an_WorkQueue_delayed : Option Addr} {sl_WorkQueue_delayed : Array (Option Value)} {oc_WorkQueue_delayed kV_WorkQueue_delayed dc_WorkQueue_delayed pm_WorkQueue_delayed cd_WorkQueue_delayed ct_WorkQueue_delayed : Value} {f_WorkQueue_failures : Addr} {od_WorkQueue_failures an_WorkQueue_failures : Option Addr} {sl_WorkQueue_failures : Array (Option Value)} {oc_WorkQueue_failures kV_WorkQueue_failures dc_WorkQueue_failures pm_WorkQueue_failures cd_WorkQueue_failures ct_WorkQueue_failures : Value} {f__law_mix : Addr} {od__law_mix an__law_mix : Option Addr} {sl__law_mix : Array (Option Value)} {oc__law_mix kV__law_mix dc__law_mix pm__law_mix cd__law_mix ct__law_mix : Value} {f__law_row : Addr} {od__law_row an__law_row : Option Addr} {sl__law_row : Array (Option Value)} {oc__law_row kV__law_row dc__law_row pm__law_row cd__law_row ct__law_row : Value} {f__law_key : Addr} {od__law_key an__law_key : Option Addr} {sl__law_key : Array (Option Value)} {oc__law_key kV__law_key dc__law_key pm__law_key cd__law_key ct__law_key : Value} {f__law_add : Addr} {od__law_add an__law_add : Option Addr} {sl__law_add : Array (Option Value)} {oc__law_add kV__law_add dc__law_add pm__law_add cd__law_add ct__law_add : Value} {f__law_add_later : Addr} {od__law_add_later an__law_add_later : Option Addr} {sl__law_add_later : Array (Option Value)} {oc__law_add_later kV__law_add_later dc__law_add_later pm__law_add_later cd__law_add_later ct__law_add_later : Value} {f__law_delay : Addr} {od__law_delay an__law_delay : Option Addr} {sl__law_delay : Array (Option Value)} {oc__law_delay kV__law_delay dc__law_delay pm__law_delay cd__law_delay ct__law_delay : Value} {f__law_leave : Addr} {od__law_leave an__law_leave : Option Addr} {sl__law_leave : Array (Option Value)} {oc__law_leave kV__law_leave dc__law_leave pm__law_leave cd__law_leave ct__law_leave : Value} {f__law_tick : Addr} {od__law_tick an__law_tick : Option Addr} {sl__law_tick : Array (Option Value)} {oc__law_tick kV__law_tick dc__law_tick pm__law_tick cd__law_tick ct__law_tick : Value} {f__law_refused : Addr} {od__law_refused an__law_refused : Option Addr} {sl__law_refused : Array (Option Value)} {oc__law_refused kV__law_refused dc__law_refused pm__law_refused cd__law_refused ct__law_refused : Value} {f__law_same : Addr} {od__law_same an__law_same : Option Addr} {sl__law_same : Array (Option Value)} {oc__law_same kV__law_same dc__law_same pm__law_same cd__law_same ct__law_same : Value} {f__law_report : Addr} {od__law_report an__law_report : Option Addr} {sl__law_report : Array (Option Value)} {oc__law_report kV__law_report dc__law_report pm__law_report cd__law_report ct__law_report : Value} {f__law_deed : Addr} {od__law_deed an__law_deed : Option Addr} {sl__law_deed : Array (Option Value)} {oc__law_deed kV__law_deed dc__law_deed pm__law_deed cd__law_deed ct__law_deed : Value} {f_law : Addr} {od_law an_law : Option Addr} {sl_law : Array (Option Value)} {oc_law kV_law dc_law pm_law cd_law ct_law : Value} {onm_NotTaken oq_NotTaken : Str} {oN_NotTaken : Addr} {obs_NotTaken : List Value} {osn_NotTaken : List Str} {osub_NotTaken : List Value} {oab_NotTaken : Bool} {ocol_NotTaken : Option Bool} {odd_NotTaken : Option Addr} {o0_NotTaken o1_NotTaken o2_NotTaken o3_NotTaken o5_NotTaken : Option Value}
    (g_MajordomoError : PySem.W.nsIn K mainGlobals "MajordomoError" = some (some (.ref e_MajordomoError)))
    (x_MajordomoError : PySem.W.excIn K e_MajordomoError [.type "ValueError", .type "Exception", .type "BaseException", .type "object"] "ValueError.__new__" = true)
    (k_MajordomoError : PySem.W.keepIn K (.ref e_MajordomoError) = true)
    (s_MajordomoError : PySem.W.subIn K (.ref e_MajordomoError) (.type "BaseException") = some true)
    (t_MajordomoError : PySem.W.typeIn K (.ref e_MajordomoError) = some (.type "type"))
    (g_CallerError : PySem.W.nsIn K mainGlobals "CallerError" = some (some (.ref e_CallerError)))
    (x_CallerError : PySem.W.excIn K e_CallerError [.type "ValueError", .type "Exception", .type "BaseException", .type "object"] "ValueError.__new__" = true)
    (k_CallerError : PySem.W.keepIn K (.ref e_CallerError) = true)
    (s_CallerError : PySem.W.subIn K (.ref e_CallerError) (.type "BaseException") = some true)
    (t_CallerError : PySem.W.typeIn K (.ref e_CallerError) = some (.type "type"))
    (g_NotTaken : PySem.W.nsIn K mainGlobals "NotTaken" = some (some (.ref e_NotTaken)))
    (k_NotTaken : PySem.W.keepIn K (.ref e_NotTaken) = true)
    (s_NotTaken : PySem.W.subIn K (.ref e_NotTaken) (.type "BaseException") = some true)
    (t_NotTaken : PySem.W.typeIn K (.ref e_NotTaken) = some (.type "type"))
    (hx_NotTaken : PySem.W.hasDictIn K e_NotTaken = true)
    (su_NotTaken : PySem.W.subIn K (.ref e_NotTaken) (.ref e_NotTaken) = some true)
    (Xhg_NotTaken : PySem.W.findIn K (.ref e_NotTaken) "__getattribute__" = some (some (.builtin "BaseException.__getattribute__")))
    (Xhk_NotTaken : PySem.W.findIn K (.ref e_NotTaken) "__getattr__" = some none)
    (Xhs_NotTaken : PySem.W.subIn K (.ref e_NotTaken) (.type "BaseException") = some true)
    (Xhd_NotTaken : PySem.W.hasDictIn K e_NotTaken = true)
    (Xha_NotTaken : PySem.W.findIn K (.ref e_NotTaken) "__class__" = some (some (.builtin "object.__class__")))
    (Xhn_NotTaken : PySem.W.specialIn K (.builtin "object.__class__") "__get__" = some (some (.builtin "getset_descriptor.__get__")))
    (Xht_NotTaken : PySem.W.takesIn K (.builtin "object.__class__") = some true)
    (Xhm_NotTaken : PySem.W.mroIn K e_NotTaken (.type "object") = some true)
    (y_NotTaken_MajordomoError : PySem.W.kitOne K (.ref e_NotTaken) (.ref e_MajordomoError) = some true)
    (m_NotTaken___init__ : PySem.W.findIn K (.ref e_NotTaken) "__init__" = some (some (.ref f_NotTaken___init__)))
    (i_NotTaken___init__ : PySem.W.isFn K (.ref f_NotTaken___init__) = true)
    (l_NotTaken___init__ : K.lookup f_NotTaken___init__ = some ⟨oc_NotTaken___init__, od_NotTaken___init__, .func (PySem.W.fnOf "__init__" "NotTaken.__init__" (defArgs s_NotTaken___init__) (defBody s_NotTaken___init__) (defScope s_NotTaken___init__) .none kV_NotTaken___init__ dc_NotTaken___init__ pm_NotTaken___init__ an_NotTaken___init__ cd_NotTaken___init__ ct_NotTaken___init__), sl_NotTaken___init__⟩)
    (c_NotTaken___init__ : PySem.W.codeIn K cd_NotTaken___init__ "NotTaken.__init__" = true)
    (k_NotTaken___init__ : PySem.W.keepIn K (.ref f_NotTaken___init__) = true)
    (gc_WorkQueue : PySem.W.nsIn K mainGlobals "WorkQueue" = some (some (.ref C_WorkQueue)))
    (m_WorkQueue___init__ : PySem.W.findIn K (.ref C_WorkQueue) "__init__" = some (some (.ref f_WorkQueue___init__)))
    (i_WorkQueue___init__ : PySem.W.isFn K (.ref f_WorkQueue___init__) = true)
    (l_WorkQueue___init__ : K.lookup f_WorkQueue___init__ = some ⟨oc_WorkQueue___init__, od_WorkQueue___init__, .func (PySem.W.fnOf "__init__" "WorkQueue.__init__" (defArgs s_WorkQueue___init__) (defBody s_WorkQueue___init__) (defScope s_WorkQueue___init__) .none (.ref kD_WorkQueue___init__) dc_WorkQueue___init__ pm_WorkQueue___init__ an_WorkQueue___init__ cd_WorkQueue___init__ ct_WorkQueue___init__), sl_WorkQueue___init__⟩)
    (c_WorkQueue___init__ : PySem.W.codeIn K cd_WorkQueue___init__ "WorkQueue.__init__" = true)
    (k_WorkQueue___init__ : PySem.W.keepIn K (.ref f_WorkQueue___init__) = true)
    (kq_WorkQueue___init___most : PySem.W.nsIn K kD_WorkQueue___init__ "most" = some (some (.int 8 kt_WorkQueue___init___most)))
    (m_WorkQueue_add : PySem.W.findIn K (.ref C_WorkQueue) "add" = some (some (.ref f_WorkQueue_add)))
    (i_WorkQueue_add : PySem.W.isFn K (.ref f_WorkQueue_add) = true)
    (l_WorkQueue_add : K.lookup f_WorkQueue_add = some ⟨oc_WorkQueue_add, od_WorkQueue_add, .func (PySem.W.fnOf "add" "WorkQueue.add" (defArgs s_WorkQueue_add) (defBody s_WorkQueue_add) (defScope s_WorkQueue_add) .none kV_WorkQueue_add dc_WorkQueue_add pm_WorkQueue_add an_WorkQueue_add cd_WorkQueue_add ct_WorkQueue_add), sl_WorkQueue_add⟩)
    (c_WorkQueue_add : PySem.W.codeIn K cd_WorkQueue_add "WorkQueue.add" = true)
    (k_WorkQueue_add : PySem.W.keepIn K (.ref f_WorkQueue_add) = true)
    (m_WorkQueue_add_later : PySem.W.findIn K (.ref C_WorkQueue) "add_later" = some (some (.ref f_WorkQueue_add_later)))
    (i_WorkQueue_add_later : PySem.W.isFn K (.ref f_WorkQueue_add_later) = true)
    (l_WorkQueue_add_later : K.lookup f_WorkQueue_add_later = some ⟨oc_WorkQueue_add_later, od_WorkQueue_add_later, .func (PySem.W.fnOf "add_later" "WorkQueue.add_later" (defArgs s_WorkQueue_add_later) (defBody s_WorkQueue_add_later) (defScope s_WorkQueue_add_later) .none kV_WorkQueue_add_later dc_WorkQueue_add_later pm_WorkQueue_add_later an_WorkQueue_add_later cd_WorkQueue_add_later ct_WorkQueue_add_later), sl_WorkQueue_add_later⟩)
    (c_WorkQueue_add_later : PySem.W.codeIn K cd_WorkQueue_add_later "WorkQueue.add_later" = true)
    (k_WorkQueue_add_later : PySem.W.keepIn K (.ref f_WorkQueue_add_later) = true)
    (m_WorkQueue_tick : PySem.W.findIn K (.ref C_WorkQueue) "tick" = some (some (.ref f_WorkQueue_tick)))
    (i_WorkQueue_tick : PySem.W.isFn K (.ref f_WorkQueue_tick) = true)
    (l_WorkQueue_tick : K.lookup f_WorkQueue_tick = some ⟨oc_WorkQueue_tick, od_WorkQueue_tick, .func (PySem.W.fnOf "tick" "WorkQueue.tick" (defArgs s_WorkQueue_tick) (defBody s_WorkQueue_tick) (defScope s_WorkQueue_tick) .none kV_WorkQueue_tick dc_WorkQueue_tick pm_WorkQueue_tick an_WorkQueue_tick cd_WorkQueue_tick ct_WorkQueue_tick), sl_WorkQueue_tick⟩)
    (c_WorkQueue_tick : PySem.W.codeIn K cd_WorkQueue_tick "WorkQueue.tick" = true)
    (k_WorkQueue_tick : PySem.W.keepIn K (.ref f_WorkQueue_tick) = true)
    (m_WorkQueue_take : PySem.W.findIn K (.ref C_WorkQueue) "take" = some (some (.ref f_WorkQueue_take)))
    (i_WorkQueue_take : PySem.W.isFn K (.ref f_WorkQueue_take) = true)
    (l_WorkQueue_take : K.lookup f_WorkQueue_take = some ⟨oc_WorkQueue_take, od_WorkQueue_take, .func (PySem.W.fnOf "take" "WorkQueue.take" (defArgs s_WorkQueue_take) (defBody s_WorkQueue_take) (defScope s_WorkQueue_take) .none kV_WorkQueue_take dc_WorkQueue_take pm_WorkQueue_take an_WorkQueue_take cd_WorkQueue_take ct_WorkQueue_take), sl_WorkQueue_take⟩)
    (c_WorkQueue_take : PySem.W.codeIn K cd_WorkQueue_take "WorkQueue.take" = true)
    (k_WorkQueue_take : PySem.W.keepIn K (.ref f_WorkQueue_take) = true)
    (m_WorkQueue_finish : PySem.W.findIn K (.ref C_WorkQueue) "finish" = some (some (.ref f_WorkQueue_finish)))
    (i_WorkQueue_finish : PySem.W.isFn K (.ref f_WorkQueue_finish) = true)
    (l_WorkQueue_finish : K.lookup f_WorkQueue_finish = some ⟨oc_WorkQueue_finish, od_WorkQueue_finish, .func (PySem.W.fnOf "finish" "WorkQueue.finish" (defArgs s_WorkQueue_finish) (defBody s_WorkQueue_finish) (defScope s_WorkQueue_finish) .none kV_WorkQueue_finish dc_WorkQueue_finish pm_WorkQueue_finish an_WorkQueue_finish cd_WorkQueue_finish ct_WorkQueue_finish), sl_WorkQueue_finish⟩)
    (c_WorkQueue_finish : PySem.W.codeIn K cd_WorkQueue_finish "WorkQueue.finish" = true)
    (k_WorkQueue_finish : PySem.W.keepIn K (.ref f_WorkQueue_finish) = true)
    (m_WorkQueue_fail : PySem.W.findIn K (.ref C_WorkQueue) "fail" = some (some (.ref f_WorkQueue_fail)))
    (i_WorkQueue_fail : PySem.W.isFn K (.ref f_WorkQueue_fail) = true)
    (l_WorkQueue_fail : K.lookup f_WorkQueue_fail = some ⟨oc_WorkQueue_fail, od_WorkQueue_fail, .func (PySem.W.fnOf "fail" "WorkQueue.fail" (defArgs s_WorkQueue_fail) (defBody s_WorkQueue_fail) (defScope s_WorkQueue_fail) .none kV_WorkQueue_fail dc_WorkQueue_fail pm_WorkQueue_fail an_WorkQueue_fail cd_WorkQueue_fail ct_WorkQueue_fail), sl_WorkQueue_fail⟩)
    (c_WorkQueue_fail : PySem.W.codeIn K cd_WorkQueue_fail "WorkQueue.fail" = true)
    (k_WorkQueue_fail : PySem.W.keepIn K (.ref f_WorkQueue_fail) = true)
    (m_WorkQueue__leave : PySem.W.findIn K (.ref C_WorkQueue) "_leave" = some (some (.ref f_WorkQueue__leave)))
    (i_WorkQueue__leave : PySem.W.isFn K (.ref f_WorkQueue__leave) = true)
    (l_WorkQueue__leave : K.lookup f_WorkQueue__leave = some ⟨oc_WorkQueue__leave, od_WorkQueue__leave, .func (PySem.W.fnOf "_leave" "WorkQueue._leave" (defArgs s_WorkQueue__leave) (defBody s_WorkQueue__leave) (defScope s_WorkQueue__leave) .none kV_WorkQueue__leave dc_WorkQueue__leave pm_WorkQueue__leave an_WorkQueue__leave cd_WorkQueue__leave ct_WorkQueue__leave), sl_WorkQueue__leave⟩)
    (c_WorkQueue__leave : PySem.W.codeIn K cd_WorkQueue__leave "WorkQueue._leave" = true)
    (k_WorkQueue__leave : PySem.W.keepIn K (.ref f_WorkQueue__leave) = true)
    (m_WorkQueue__delay : PySem.W.findIn K (.ref C_WorkQueue) "_delay" = some (some (.ref f_WorkQueue__delay)))
    (i_WorkQueue__delay : PySem.W.isFn K (.ref f_WorkQueue__delay) = true)
    (l_WorkQueue__delay : K.lookup f_WorkQueue__delay = some ⟨oc_WorkQueue__delay, od_WorkQueue__delay, .func (PySem.W.fnOf "_delay" "WorkQueue._delay" (defArgs s_WorkQueue__delay) (defBody s_WorkQueue__delay) (defScope s_WorkQueue__delay) .none kV_WorkQueue__delay dc_WorkQueue__delay pm_WorkQueue__delay an_WorkQueue__delay cd_WorkQueue__delay ct_WorkQueue__delay), sl_WorkQueue__delay⟩)
    (c_WorkQueue__delay : PySem.W.codeIn K cd_WorkQueue__delay "WorkQueue._delay" = true)
    (k_WorkQueue__delay : PySem.W.keepIn K (.ref f_WorkQueue__delay) = true)
    (m_WorkQueue_waiting : PySem.W.findIn K (.ref C_WorkQueue) "waiting" = some (some (.ref f_WorkQueue_waiting)))
    (i_WorkQueue_waiting : PySem.W.isFn K (.ref f_WorkQueue_waiting) = true)
    (l_WorkQueue_waiting : K.lookup f_WorkQueue_waiting = some ⟨oc_WorkQueue_waiting, od_WorkQueue_waiting, .func (PySem.W.fnOf "waiting" "WorkQueue.waiting" (defArgs s_WorkQueue_waiting) (defBody s_WorkQueue_waiting) (defScope s_WorkQueue_waiting) .none kV_WorkQueue_waiting dc_WorkQueue_waiting pm_WorkQueue_waiting an_WorkQueue_waiting cd_WorkQueue_waiting ct_WorkQueue_waiting), sl_WorkQueue_waiting⟩)
    (c_WorkQueue_waiting : PySem.W.codeIn K cd_WorkQueue_waiting "WorkQueue.waiting" = true)
    (k_WorkQueue_waiting : PySem.W.keepIn K (.ref f_WorkQueue_waiting) = true)
    (m_WorkQueue_in_work : PySem.W.findIn K (.ref C_WorkQueue) "in_work" = some (some (.ref f_WorkQueue_in_work)))
    (i_WorkQueue_in_work : PySem.W.isFn K (.ref f_WorkQueue_in_work) = true)
    (l_WorkQueue_in_work : K.lookup f_WorkQueue_in_work = some ⟨oc_WorkQueue_in_work, od_WorkQueue_in_work, .func (PySem.W.fnOf "in_work" "WorkQueue.in_work" (defArgs s_WorkQueue_in_work) (defBody s_WorkQueue_in_work) (defScope s_WorkQueue_in_work) .none kV_WorkQueue_in_work dc_WorkQueue_in_work pm_WorkQueue_in_work an_WorkQueue_in_work cd_WorkQueue_in_work ct_WorkQueue_in_work), sl_WorkQueue_in_work⟩)
    (c_WorkQueue_in_work : PySem.W.codeIn K cd_WorkQueue_in_work "WorkQueue.in_work" = true)
    (k_WorkQueue_in_work : PySem.W.keepIn K (.ref f_WorkQueue_in_work) = true)
    (m_WorkQueue_delayed : PySem.W.findIn K (.ref C_WorkQueue) "delayed" = some (some (.ref f_WorkQueue_delayed)))
    (i_WorkQueue_delayed : PySem.W.isFn K (.ref f_WorkQueue_delayed) = true)
    (l_WorkQueue_delayed : K.lookup f_WorkQueue_delayed = some ⟨oc_WorkQueue_delayed, od_WorkQueue_delayed, .func (PySem.W.fnOf "delayed" "WorkQueue.delayed" (defArgs s_WorkQueue_delayed) (defBody s_WorkQueue_delayed) (defScope s_WorkQueue_delayed) .none kV_WorkQueue_delayed dc_WorkQueue_delayed pm_WorkQueue_delayed an_WorkQueue_delayed cd_WorkQueue_delayed ct_WorkQueue_delayed), sl_WorkQueue_delayed⟩)
    (c_WorkQueue_delayed : PySem.W.codeIn K cd_WorkQueue_delayed "WorkQueue.delayed" = true)
    (k_WorkQueue_delayed : PySem.W.keepIn K (.ref f_WorkQueue_delayed) = true)
    (m_WorkQueue_failures : PySem.W.findIn K (.ref C_WorkQueue) "failures" = some (some (.ref f_WorkQueue_failures)))
    (i_WorkQueue_failures : PySem.W.isFn K (.ref f_WorkQueue_failures) = true)
    (l_WorkQueue_failures : K.lookup f_WorkQueue_failures = some ⟨oc_WorkQueue_failures, od_WorkQueue_failures, .func (PySem.W.fnOf "failures" "WorkQueue.failures" (defArgs s_WorkQueue_failures) (defBody s_WorkQueue_failures) (defScope s_WorkQueue_failures) .none kV_WorkQueue_failures dc_WorkQueue_failures pm_WorkQueue_failures an_WorkQueue_failures cd_WorkQueue_failures ct_WorkQueue_failures), sl_WorkQueue_failures⟩)
    (c_WorkQueue_failures : PySem.W.codeIn K cd_WorkQueue_failures "WorkQueue.failures" = true)
    (k_WorkQueue_failures : PySem.W.keepIn K (.ref f_WorkQueue_failures) = true)
    (g__law_mix : PySem.W.nsIn K mainGlobals "_law_mix" = some (some (.ref f__law_mix)))
    (l__law_mix : K.lookup f__law_mix = some ⟨oc__law_mix, od__law_mix, .func (PySem.W.fnOf "_law_mix" "_law_mix" (defArgs s__law_mix) (defBody s__law_mix) (defScope s__law_mix) .none kV__law_mix dc__law_mix pm__law_mix an__law_mix cd__law_mix ct__law_mix), sl__law_mix⟩)
    (c__law_mix : PySem.W.codeIn K cd__law_mix "_law_mix" = true)
    (k__law_mix : PySem.W.keepIn K (.ref f__law_mix) = true)
    (g__law_row : PySem.W.nsIn K mainGlobals "_law_row" = some (some (.ref f__law_row)))
    (l__law_row : K.lookup f__law_row = some ⟨oc__law_row, od__law_row, .func (PySem.W.fnOf "_law_row" "_law_row" (defArgs s__law_row) (defBody s__law_row) (defScope s__law_row) .none kV__law_row dc__law_row pm__law_row an__law_row cd__law_row ct__law_row), sl__law_row⟩)
    (c__law_row : PySem.W.codeIn K cd__law_row "_law_row" = true)
    (k__law_row : PySem.W.keepIn K (.ref f__law_row) = true)
    (g__law_key : PySem.W.nsIn K mainGlobals "_law_key" = some (some (.ref f__law_key)))
    (l__law_key : K.lookup f__law_key = some ⟨oc__law_key, od__law_key, .func (PySem.W.fnOf "_law_key" "_law_key" (defArgs s__law_key) (defBody s__law_key) (defScope s__law_key) .none kV__law_key dc__law_key pm__law_key an__law_key cd__law_key ct__law_key), sl__law_key⟩)
    (c__law_key : PySem.W.codeIn K cd__law_key "_law_key" = true)
    (k__law_key : PySem.W.keepIn K (.ref f__law_key) = true)
    (g__law_add : PySem.W.nsIn K mainGlobals "_law_add" = some (some (.ref f__law_add)))
    (l__law_add : K.lookup f__law_add = some ⟨oc__law_add, od__law_add, .func (PySem.W.fnOf "_law_add" "_law_add" (defArgs s__law_add) (defBody s__law_add) (defScope s__law_add) .none kV__law_add dc__law_add pm__law_add an__law_add cd__law_add ct__law_add), sl__law_add⟩)
    (c__law_add : PySem.W.codeIn K cd__law_add "_law_add" = true)
    (k__law_add : PySem.W.keepIn K (.ref f__law_add) = true)
    (g__law_add_later : PySem.W.nsIn K mainGlobals "_law_add_later" = some (some (.ref f__law_add_later)))
    (l__law_add_later : K.lookup f__law_add_later = some ⟨oc__law_add_later, od__law_add_later, .func (PySem.W.fnOf "_law_add_later" "_law_add_later" (defArgs s__law_add_later) (defBody s__law_add_later) (defScope s__law_add_later) .none kV__law_add_later dc__law_add_later pm__law_add_later an__law_add_later cd__law_add_later ct__law_add_later), sl__law_add_later⟩)
    (c__law_add_later : PySem.W.codeIn K cd__law_add_later "_law_add_later" = true)
    (k__law_add_later : PySem.W.keepIn K (.ref f__law_add_later) = true)
    (g__law_delay : PySem.W.nsIn K mainGlobals "_law_delay" = some (some (.ref f__law_delay)))
    (l__law_delay : K.lookup f__law_delay = some ⟨oc__law_delay, od__law_delay, .func (PySem.W.fnOf "_law_delay" "_law_delay" (defArgs s__law_delay) (defBody s__law_delay) (defScope s__law_delay) .none kV__law_delay dc__law_delay pm__law_delay an__law_delay cd__law_delay ct__law_delay), sl__law_delay⟩)
    (c__law_delay : PySem.W.codeIn K cd__law_delay "_law_delay" = true)
    (k__law_delay : PySem.W.keepIn K (.ref f__law_delay) = true)
    (g__law_leave : PySem.W.nsIn K mainGlobals "_law_leave" = some (some (.ref f__law_leave)))
    (l__law_leave : K.lookup f__law_leave = some ⟨oc__law_leave, od__law_leave, .func (PySem.W.fnOf "_law_leave" "_law_leave" (defArgs s__law_leave) (defBody s__law_leave) (defScope s__law_leave) .none kV__law_leave dc__law_leave pm__law_leave an__law_leave cd__law_leave ct__law_leave), sl__law_leave⟩)
    (c__law_leave : PySem.W.codeIn K cd__law_leave "_law_leave" = true)
    (k__law_leave : PySem.W.keepIn K (.ref f__law_leave) = true)
    (g__law_tick : PySem.W.nsIn K mainGlobals "_law_tick" = some (some (.ref f__law_tick)))
    (l__law_tick : K.lookup f__law_tick = some ⟨oc__law_tick, od__law_tick, .func (PySem.W.fnOf "_law_tick" "_law_tick" (defArgs s__law_tick) (defBody s__law_tick) (defScope s__law_tick) .none kV__law_tick dc__law_tick pm__law_tick an__law_tick cd__law_tick ct__law_tick), sl__law_tick⟩)
    (c__law_tick : PySem.W.codeIn K cd__law_tick "_law_tick" = true)
    (k__law_tick : PySem.W.keepIn K (.ref f__law_tick) = true)
    (g__law_refused : PySem.W.nsIn K mainGlobals "_law_refused" = some (some (.ref f__law_refused)))
    (l__law_refused : K.lookup f__law_refused = some ⟨oc__law_refused, od__law_refused, .func (PySem.W.fnOf "_law_refused" "_law_refused" (defArgs s__law_refused) (defBody s__law_refused) (defScope s__law_refused) .none kV__law_refused dc__law_refused pm__law_refused an__law_refused cd__law_refused ct__law_refused), sl__law_refused⟩)
    (c__law_refused : PySem.W.codeIn K cd__law_refused "_law_refused" = true)
    (k__law_refused : PySem.W.keepIn K (.ref f__law_refused) = true)
    (g__law_same : PySem.W.nsIn K mainGlobals "_law_same" = some (some (.ref f__law_same)))
    (l__law_same : K.lookup f__law_same = some ⟨oc__law_same, od__law_same, .func (PySem.W.fnOf "_law_same" "_law_same" (defArgs s__law_same) (defBody s__law_same) (defScope s__law_same) .none kV__law_same dc__law_same pm__law_same an__law_same cd__law_same ct__law_same), sl__law_same⟩)
    (c__law_same : PySem.W.codeIn K cd__law_same "_law_same" = true)
    (k__law_same : PySem.W.keepIn K (.ref f__law_same) = true)
    (g__law_report : PySem.W.nsIn K mainGlobals "_law_report" = some (some (.ref f__law_report)))
    (l__law_report : K.lookup f__law_report = some ⟨oc__law_report, od__law_report, .func (PySem.W.fnOf "_law_report" "_law_report" (defArgs s__law_report) (defBody s__law_report) (defScope s__law_report) .none kV__law_report dc__law_report pm__law_report an__law_report cd__law_report ct__law_report), sl__law_report⟩)
    (c__law_report : PySem.W.codeIn K cd__law_report "_law_report" = true)
    (k__law_report : PySem.W.keepIn K (.ref f__law_report) = true)
    (g__law_deed : PySem.W.nsIn K mainGlobals "_law_deed" = some (some (.ref f__law_deed)))
    (l__law_deed : K.lookup f__law_deed = some ⟨oc__law_deed, od__law_deed, .func (PySem.W.fnOf "_law_deed" "_law_deed" (defArgs s__law_deed) (defBody s__law_deed) (defScope s__law_deed) .none kV__law_deed dc__law_deed pm__law_deed an__law_deed cd__law_deed ct__law_deed), sl__law_deed⟩)
    (c__law_deed : PySem.W.codeIn K cd__law_deed "_law_deed" = true)
    (k__law_deed : PySem.W.keepIn K (.ref f__law_deed) = true)
    (g_law : PySem.W.nsIn K mainGlobals "law" = some (some (.ref f_law)))
    (l_law : K.lookup f_law = some ⟨oc_law, od_law, .func (PySem.W.fnOf "law" "law" (defArgs s_law) (defBody s_law) (defScope s_law) .none kV_law dc_law pm_law an_law cd_law ct_law), sl_law⟩)
    (c_law : PySem.W.codeIn K cd_law "law" = true)
    (k_law : PySem.W.keepIn K (.ref f_law) = true)
    (ox_NotTaken : K.lookup e_NotTaken = some (PySem.excClassObj onm_NotTaken oq_NotTaken e_NotTaken oN_NotTaken obs_NotTaken [.ref e_CallerError, .ref e_MajordomoError, .type "ValueError", .type "Exception", .type "BaseException", .type "object"] true osn_NotTaken osub_NotTaken oab_NotTaken ocol_NotTaken odd_NotTaken o0_NotTaken o1_NotTaken o2_NotTaken o3_NotTaken o5_NotTaken "ValueError.__new__"))
    (osa_NotTaken : PySem.W.findIn K (.ref e_NotTaken) "__setattr__" = some (some (.builtin "object.__setattr__")))
    (oti_NotTaken : PySem.W.typeIn K (.ref f_NotTaken___init__) = some (.type "function"))
    (ona_NotTaken_key : PySem.W.findIn K (.ref e_NotTaken) "key" = some none)
    (pg_WorkQueue : PySem.W.plainGet K C_WorkQueue Str.empty = true)
    (hd_WorkQueue : PySem.W.hasDictIn K C_WorkQueue = true)
    (po_WorkQueue : PySem.W.plainOver K C_WorkQueue = true)
    (sa_WorkQueue : PySem.W.findIn K (.ref C_WorkQueue) "__setattr__" = some (some (.builtin "object.__setattr__")))
    (mk_WorkQueue : PySem.W.makesIn K C_WorkQueue = true)
    (kc_WorkQueue : PySem.W.keepIn K (.ref C_WorkQueue) = true)
    (na_WorkQueue__most : PySem.W.findIn K (.ref C_WorkQueue) "_most" = some none)
    (na_WorkQueue__waiting : PySem.W.findIn K (.ref C_WorkQueue) "_waiting" = some none)
    (na_WorkQueue__working : PySem.W.findIn K (.ref C_WorkQueue) "_working" = some none)
    (na_WorkQueue__ticks : PySem.W.findIn K (.ref C_WorkQueue) "_ticks" = some none)
    (na_WorkQueue__failures : PySem.W.findIn K (.ref C_WorkQueue) "_failures" = some none)
    (n_list : PySem.W.nsIn K mainGlobals "list" = some none)
    (n_sorted : PySem.W.nsIn K mainGlobals "sorted" = some none)
    (n_min : PySem.W.nsIn K mainGlobals "min" = some none)
    (n_range : PySem.W.nsIn K mainGlobals "range" = some none)
    (n_int : PySem.W.nsIn K mainGlobals "int" = some none)
    (n_isinstance : PySem.W.nsIn K mainGlobals "isinstance" = some none)
    (n_len : PySem.W.nsIn K mainGlobals "len" = some none) :
    ∃ fd : FuncData, (∀ (s : Shared) (v : Value), BindsTo s fd ⟨[v], []⟩ [("script", v)]) ∧ ∀ base : Heap, K.In base → base.Ns mainGlobals mg → FnOk l.prog w K mg base CX0 8 fa fd ["script"] (sp_law K) := by
  have e : fa = f_law := by
    have z := hfa.symm.trans (PySem.W.mg_of X G g_law)
    injection z with z
    injection z
  rw [e]
  let T : TX K mg := ⟨e_MajordomoError, (PySem.W.mg_of X G g_MajordomoError), x_MajordomoError, k_MajordomoError, s_MajordomoError, t_MajordomoError, e_CallerError, (PySem.W.mg_of X G g_CallerError), x_CallerError, k_CallerError, s_CallerError, t_CallerError, e_NotTaken, (PySem.W.mg_of X G g_NotTaken), k_NotTaken, s_NotTaken, t_NotTaken, (PySem.W.exm_ref s_NotTaken hx_NotTaken t_NotTaken su_NotTaken), C_WorkQueue, ⟨Xhg_NotTaken, Xhk_NotTaken, Xhs_NotTaken, Xhd_NotTaken, Xha_NotTaken, Xhn_NotTaken, Xht_NotTaken, Xhm_NotTaken⟩, y_NotTaken_MajordomoError, f_NotTaken___init__, (PySem.W.fnOf "__init__" "NotTaken.__init__" (defArgs s_NotTaken___init__) (defBody s_NotTaken___init__) (defScope s_NotTaken___init__) .none kV_NotTaken___init__ dc_NotTaken___init__ pm_NotTaken___init__ an_NotTaken___init__ cd_NotTaken___init__ ct_NotTaken___init__), (fun_mk (st := s_NotTaken___init__) l_NotTaken___init__ c_NotTaken___init__ k_NotTaken___init__), ((fun_mk (st := s_NotTaken___init__) l_NotTaken___init__ c_NotTaken___init__ k_NotTaken___init__).binds (ps := ["self", "key"]) fun _ _ _ _ _ _ us hl => match us, hl with | [_, _], _ => rfl), f_WorkQueue___init__, (PySem.W.fnOf "__init__" "WorkQueue.__init__" (defArgs s_WorkQueue___init__) (defBody s_WorkQueue___init__) (defScope s_WorkQueue___init__) .none (.ref kD_WorkQueue___init__) dc_WorkQueue___init__ pm_WorkQueue___init__ an_WorkQueue___init__ cd_WorkQueue___init__ ct_WorkQueue___init__), (show FunD K "__init__" "WorkQueue.__init__" (defArgs s_WorkQueue___init__) (defBody s_WorkQueue___init__) (defScope s_WorkQueue___init__) [] [("most", .int 8)] f_WorkQueue___init__ (PySem.W.fnOf "__init__" "WorkQueue.__init__" (defArgs s_WorkQueue___init__) (defBody s_WorkQueue___init__) (defScope s_WorkQueue___init__) .none (.ref kD_WorkQueue___init__) dc_WorkQueue___init__ pm_WorkQueue___init__ an_WorkQueue___init__ cd_WorkQueue___init__ ct_WorkQueue___init__) from ⟨⟨oc_WorkQueue___init__, od_WorkQueue___init__, .none, .ref kD_WorkQueue___init__, dc_WorkQueue___init__, pm_WorkQueue___init__, an_WorkQueue___init__, cd_WorkQueue___init__, ct_WorkQueue___init__, sl_WorkQueue___init__, rfl, l_WorkQueue___init__, c_WorkQueue___init__, Or.inl ⟨rfl, rfl⟩, Or.inr ⟨kD_WorkQueue___init__, rfl, (fun q hq => by simp only [List.mem_cons, List.not_mem_nil, or_false] at hq; rcases hq with rfl <;> exact ⟨_, by assumption, ⟨_, rfl⟩⟩)⟩⟩, k_WorkQueue___init__⟩), ((show FunD K "__init__" "WorkQueue.__init__" (defArgs s_WorkQueue___init__) (defBody s_WorkQueue___init__) (defScope s_WorkQueue___init__) [] [("most", .int 8)] f_WorkQueue___init__ (PySem.W.fnOf "__init__" "WorkQueue.__init__" (defArgs s_WorkQueue___init__) (defBody s_WorkQueue___init__) (defScope s_WorkQueue___init__) .none (.ref kD_WorkQueue___init__) dc_WorkQueue___init__ pm_WorkQueue___init__ an_WorkQueue___init__ cd_WorkQueue___init__ ct_WorkQueue___init__) from ⟨⟨oc_WorkQueue___init__, od_WorkQueue___init__, .none, .ref kD_WorkQueue___init__, dc_WorkQueue___init__, pm_WorkQueue___init__, an_WorkQueue___init__, cd_WorkQueue___init__, ct_WorkQueue___init__, sl_WorkQueue___init__, rfl, l_WorkQueue___init__, c_WorkQueue___init__, Or.inl ⟨rfl, rfl⟩, Or.inr ⟨kD_WorkQueue___init__, rfl, (fun q hq => by simp only [List.mem_cons, List.not_mem_nil, or_false] at hq; rcases hq with rfl <;> exact ⟨_, by assumption, ⟨_, rfl⟩⟩)⟩⟩, k_WorkQueue___init__⟩).binds0 1 (by simp) rfl (fun D doc pm an cdv ct us ks h1 h2 => match us, ks, h1, h2 with | [_], [_], _, _ => ⟨_, _, _, _, _, _, rfl, rfl, rfl⟩)), ((show FunD K "__init__" "WorkQueue.__init__" (defArgs s_WorkQueue___init__) (defBody s_WorkQueue___init__) (defScope s_WorkQueue___init__) [] [("most", .int 8)] f_WorkQueue___init__ (PySem.W.fnOf "__init__" "WorkQueue.__init__" (defArgs s_WorkQueue___init__) (defBody s_WorkQueue___init__) (defScope s_WorkQueue___init__) .none (.ref kD_WorkQueue___init__) dc_WorkQueue___init__ pm_WorkQueue___init__ an_WorkQueue___init__ cd_WorkQueue___init__ ct_WorkQueue___init__) from ⟨⟨oc_WorkQueue___init__, od_WorkQueue___init__, .none, .ref kD_WorkQueue___init__, dc_WorkQueue___init__, pm_WorkQueue___init__, an_WorkQueue___init__, cd_WorkQueue___init__, ct_WorkQueue___init__, sl_WorkQueue___init__, rfl, l_WorkQueue___init__, c_WorkQueue___init__, Or.inl ⟨rfl, rfl⟩, Or.inr ⟨kD_WorkQueue___init__, rfl, (fun q hq => by simp only [List.mem_cons, List.not_mem_nil, or_false] at hq; rcases hq with rfl <;> exact ⟨_, by assumption, ⟨_, rfl⟩⟩)⟩⟩, k_WorkQueue___init__⟩).kbinds0 1 ["most"] [] (fun us mv ws => us ++ (mv ++ ws)) (by simp) (fun q hq => by cases hq) (fun r1 r2 r3 => r1.append (r2.append r3)) (fun D doc pm an cdv ct us mv ws h1 h2 h3 => match us, mv, ws, h1, h2, h3 with | [_], [], [_], _, _, _ => rfl)), f_WorkQueue_add, (PySem.W.fnOf "add" "WorkQueue.add" (defArgs s_WorkQueue_add) (defBody s_WorkQueue_add) (defScope s_WorkQueue_add) .none kV_WorkQueue_add dc_WorkQueue_add pm_WorkQueue_add an_WorkQueue_add cd_WorkQueue_add ct_WorkQueue_add), (fun_mk (st := s_WorkQueue_add) l_WorkQueue_add c_WorkQueue_add k_WorkQueue_add), ((fun_mk (st := s_WorkQueue_add) l_WorkQueue_add c_WorkQueue_add k_WorkQueue_add).binds (ps := ["self", "key"]) fun _ _ _ _ _ _ us hl => match us, hl with | [_, _], _ => rfl), ⟨m_WorkQueue_add, i_WorkQueue_add, k_WorkQueue_add⟩, f_WorkQueue_add_later, (PySem.W.fnOf "add_later" "WorkQueue.add_later" (defArgs s_WorkQueue_add_later) (defBody s_WorkQueue_add_later) (defScope s_WorkQueue_add_later) .none kV_WorkQueue_add_later dc_WorkQueue_add_later pm_WorkQueue_add_later an_WorkQueue_add_later cd_WorkQueue_add_later ct_WorkQueue_add_later), (fun_mk (st := s_WorkQueue_add_later) l_WorkQueue_add_later c_WorkQueue_add_later k_WorkQueue_add_later), ((fun_mk (st := s_WorkQueue_add_later) l_WorkQueue_add_later c_WorkQueue_add_later k_WorkQueue_add_later).binds (ps := ["self", "key", "ticks"]) fun _ _ _ _ _ _ us hl => match us, hl with | [_, _, _], _ => rfl), ⟨m_WorkQueue_add_later, i_WorkQueue_add_later, k_WorkQueue_add_later⟩, f_WorkQueue_tick, (PySem.W.fnOf "tick" "WorkQueue.tick" (defArgs s_WorkQueue_tick) (defBody s_WorkQueue_tick) (defScope s_WorkQueue_tick) .none kV_WorkQueue_tick dc_WorkQueue_tick pm_WorkQueue_tick an_WorkQueue_tick cd_WorkQueue_tick ct_WorkQueue_tick), (fun_mk (st := s_WorkQueue_tick) l_WorkQueue_tick c_WorkQueue_tick k_WorkQueue_tick), ((fun_mk (st := s_WorkQueue_tick) l_WorkQueue_tick c_WorkQueue_tick k_WorkQueue_tick).binds (ps := ["self"]) fun _ _ _ _ _ _ us hl => match us, hl with | [_], _ => rfl), ⟨m_WorkQueue_tick, i_WorkQueue_tick, k_WorkQueue_tick⟩, f_WorkQueue_take, (PySem.W.fnOf "take" "WorkQueue.take" (defArgs s_WorkQueue_take) (defBody s_WorkQueue_take) (defScope s_WorkQueue_take) .none kV_WorkQueue_take dc_WorkQueue_take pm_WorkQueue_take an_WorkQueue_take cd_WorkQueue_take ct_WorkQueue_take), (fun_mk (st := s_WorkQueue_take) l_WorkQueue_take c_WorkQueue_take k_WorkQueue_take), ((fun_mk (st := s_WorkQueue_take) l_WorkQueue_take c_WorkQueue_take k_WorkQueue_take).binds (ps := ["self"]) fun _ _ _ _ _ _ us hl => match us, hl with | [_], _ => rfl), ⟨m_WorkQueue_take, i_WorkQueue_take, k_WorkQueue_take⟩, f_WorkQueue_finish, (PySem.W.fnOf "finish" "WorkQueue.finish" (defArgs s_WorkQueue_finish) (defBody s_WorkQueue_finish) (defScope s_WorkQueue_finish) .none kV_WorkQueue_finish dc_WorkQueue_finish pm_WorkQueue_finish an_WorkQueue_finish cd_WorkQueue_finish ct_WorkQueue_finish), (fun_mk (st := s_WorkQueue_finish) l_WorkQueue_finish c_WorkQueue_finish k_WorkQueue_finish), ((fun_mk (st := s_WorkQueue_finish) l_WorkQueue_finish c_WorkQueue_finish k_WorkQueue_finish).binds (ps := ["self", "key"]) fun _ _ _ _ _ _ us hl => match us, hl with | [_, _], _ => rfl), ⟨m_WorkQueue_finish, i_WorkQueue_finish, k_WorkQueue_finish⟩, f_WorkQueue_fail, (PySem.W.fnOf "fail" "WorkQueue.fail" (defArgs s_WorkQueue_fail) (defBody s_WorkQueue_fail) (defScope s_WorkQueue_fail) .none kV_WorkQueue_fail dc_WorkQueue_fail pm_WorkQueue_fail an_WorkQueue_fail cd_WorkQueue_fail ct_WorkQueue_fail), (fun_mk (st := s_WorkQueue_fail) l_WorkQueue_fail c_WorkQueue_fail k_WorkQueue_fail), ((fun_mk (st := s_WorkQueue_fail) l_WorkQueue_fail c_WorkQueue_fail k_WorkQueue_fail).binds (ps := ["self", "key"]) fun _ _ _ _ _ _ us hl => match us, hl with | [_, _], _ => rfl), ⟨m_WorkQueue_fail, i_WorkQueue_fail, k_WorkQueue_fail⟩, f_WorkQueue__leave, (PySem.W.fnOf "_leave" "WorkQueue._leave" (defArgs s_WorkQueue__leave) (defBody s_WorkQueue__leave) (defScope s_WorkQueue__leave) .none kV_WorkQueue__leave dc_WorkQueue__leave pm_WorkQueue__leave an_WorkQueue__leave cd_WorkQueue__leave ct_WorkQueue__leave), (fun_mk (st := s_WorkQueue__leave) l_WorkQueue__leave c_WorkQueue__leave k_WorkQueue__leave), ((fun_mk (st := s_WorkQueue__leave) l_WorkQueue__leave c_WorkQueue__leave k_WorkQueue__leave).binds (ps := ["self", "key"]) fun _ _ _ _ _ _ us hl => match us, hl with | [_, _], _ => rfl), ⟨m_WorkQueue__leave, i_WorkQueue__leave, k_WorkQueue__leave⟩, f_WorkQueue__delay, (PySem.W.fnOf "_delay" "WorkQueue._delay" (defArgs s_WorkQueue__delay) (defBody s_WorkQueue__delay) (defScope s_WorkQueue__delay) .none kV_WorkQueue__delay dc_WorkQueue__delay pm_WorkQueue__delay an_WorkQueue__delay cd_WorkQueue__delay ct_WorkQueue__delay), (fun_mk (st := s_WorkQueue__delay) l_WorkQueue__delay c_WorkQueue__delay k_WorkQueue__delay), ((fun_mk (st := s_WorkQueue__delay) l_WorkQueue__delay c_WorkQueue__delay k_WorkQueue__delay).binds (ps := ["self", "key"]) fun _ _ _ _ _ _ us hl => match us, hl with | [_, _], _ => rfl), ⟨m_WorkQueue__delay, i_WorkQueue__delay, k_WorkQueue__delay⟩, f_WorkQueue_waiting, (PySem.W.fnOf "waiting" "WorkQueue.waiting" (defArgs s_WorkQueue_waiting) (defBody s_WorkQueue_waiting) (defScope s_WorkQueue_waiting) .none kV_WorkQueue_waiting dc_WorkQueue_waiting pm_WorkQueue_waiting an_WorkQueue_waiting cd_WorkQueue_waiting ct_WorkQueue_waiting), (fun_mk (st := s_WorkQueue_waiting) l_WorkQueue_waiting c_WorkQueue_waiting k_WorkQueue_waiting), ((fun_mk (st := s_WorkQueue_waiting) l_WorkQueue_waiting c_WorkQueue_waiting k_WorkQueue_waiting).binds (ps := ["self"]) fun _ _ _ _ _ _ us hl => match us, hl with | [_], _ => rfl), ⟨m_WorkQueue_waiting, i_WorkQueue_waiting, k_WorkQueue_waiting⟩, f_WorkQueue_in_work, (PySem.W.fnOf "in_work" "WorkQueue.in_work" (defArgs s_WorkQueue_in_work) (defBody s_WorkQueue_in_work) (defScope s_WorkQueue_in_work) .none kV_WorkQueue_in_work dc_WorkQueue_in_work pm_WorkQueue_in_work an_WorkQueue_in_work cd_WorkQueue_in_work ct_WorkQueue_in_work), (fun_mk (st := s_WorkQueue_in_work) l_WorkQueue_in_work c_WorkQueue_in_work k_WorkQueue_in_work), ((fun_mk (st := s_WorkQueue_in_work) l_WorkQueue_in_work c_WorkQueue_in_work k_WorkQueue_in_work).binds (ps := ["self"]) fun _ _ _ _ _ _ us hl => match us, hl with | [_], _ => rfl), ⟨m_WorkQueue_in_work, i_WorkQueue_in_work, k_WorkQueue_in_work⟩, f_WorkQueue_delayed, (PySem.W.fnOf "delayed" "WorkQueue.delayed" (defArgs s_WorkQueue_delayed) (defBody s_WorkQueue_delayed) (defScope s_WorkQueue_delayed) .none kV_WorkQueue_delayed dc_WorkQueue_delayed pm_WorkQueue_delayed an_WorkQueue_delayed cd_WorkQueue_delayed ct_WorkQueue_delayed), (fun_mk (st := s_WorkQueue_delayed) l_WorkQueue_delayed c_WorkQueue_delayed k_WorkQueue_delayed), ((fun_mk (st := s_WorkQueue_delayed) l_WorkQueue_delayed c_WorkQueue_delayed k_WorkQueue_delayed).binds (ps := ["self"]) fun _ _ _ _ _ _ us hl => match us, hl with | [_], _ => rfl), ⟨m_WorkQueue_delayed, i_WorkQueue_delayed, k_WorkQueue_delayed⟩, f_WorkQueue_failures, (PySem.W.fnOf "failures" "WorkQueue.failures" (defArgs s_WorkQueue_failures) (defBody s_WorkQueue_failures) (defScope s_WorkQueue_failures) .none kV_WorkQueue_failures dc_WorkQueue_failures pm_WorkQueue_failures an_WorkQueue_failures cd_WorkQueue_failures ct_WorkQueue_failures), (fun_mk (st := s_WorkQueue_failures) l_WorkQueue_failures c_WorkQueue_failures k_WorkQueue_failures), ((fun_mk (st := s_WorkQueue_failures) l_WorkQueue_failures c_WorkQueue_failures k_WorkQueue_failures).binds (ps := ["self", "key"]) fun _ _ _ _ _ _ us hl => match us, hl with | [_, _], _ => rfl), ⟨m_WorkQueue_failures, i_WorkQueue_failures, k_WorkQueue_failures⟩, f__law_mix, (PySem.W.fnOf "_law_mix" "_law_mix" (defArgs s__law_mix) (defBody s__law_mix) (defScope s__law_mix) .none kV__law_mix dc__law_mix pm__law_mix an__law_mix cd__law_mix ct__law_mix), (fun_mk (st := s__law_mix) l__law_mix c__law_mix k__law_mix), ((fun_mk (st := s__law_mix) l__law_mix c__law_mix k__law_mix).binds (ps := ["cell", "k"]) fun _ _ _ _ _ _ us hl => match us, hl with | [_, _], _ => rfl), (PySem.W.mg_of X G g__law_mix), f__law_row, (PySem.W.fnOf "_law_row" "_law_row" (defArgs s__law_row) (defBody s__law_row) (defScope s__law_row) .none kV__law_row dc__law_row pm__law_row an__law_row cd__law_row ct__law_row), (fun_mk (st := s__law_row) l__law_row c__law_row k__law_row), ((fun_mk (st := s__law_row) l__law_row c__law_row k__law_row).binds (ps := ["script", "most"]) fun _ _ _ _ _ _ us hl => match us, hl with | [_, _], _ => rfl), (PySem.W.mg_of X G g__law_row), f__law_key, (PySem.W.fnOf "_law_key" "_law_key" (defArgs s__law_key) (defBody s__law_key) (defScope s__law_key) .none kV__law_key dc__law_key pm__law_key an__law_key cd__law_key ct__law_key), (fun_mk (st := s__law_key) l__law_key c__law_key k__law_key), ((fun_mk (st := s__law_key) l__law_key c__law_key k__law_key).binds (ps := ["number"]) fun _ _ _ _ _ _ us hl => match us, hl with | [_], _ => rfl), (PySem.W.mg_of X G g__law_key), f__law_add, (PySem.W.fnOf "_law_add" "_law_add" (defArgs s__law_add) (defBody s__law_add) (defScope s__law_add) .none kV__law_add dc__law_add pm__law_add an__law_add cd__law_add ct__law_add), (fun_mk (st := s__law_add) l__law_add c__law_add k__law_add), ((fun_mk (st := s__law_add) l__law_add c__law_add k__law_add).binds (ps := ["waiting", "work", "again", "delayed", "key"]) fun _ _ _ _ _ _ us hl => match us, hl with | [_, _, _, _, _], _ => rfl), (PySem.W.mg_of X G g__law_add), f__law_add_later, (PySem.W.fnOf "_law_add_later" "_law_add_later" (defArgs s__law_add_later) (defBody s__law_add_later) (defScope s__law_add_later) .none kV__law_add_later dc__law_add_later pm__law_add_later an__law_add_later cd__law_add_later ct__law_add_later), (fun_mk (st := s__law_add_later) l__law_add_later c__law_add_later k__law_add_later), ((fun_mk (st := s__law_add_later) l__law_add_later c__law_add_later k__law_add_later).binds (ps := ["waiting", "work", "again", "delayed", "key", "ticks"]) fun _ _ _ _ _ _ us hl => match us, hl with | [_, _, _, _, _, _], _ => rfl), (PySem.W.mg_of X G g__law_add_later), f__law_delay, (PySem.W.fnOf "_law_delay" "_law_delay" (defArgs s__law_delay) (defBody s__law_delay) (defScope s__law_delay) .none kV__law_delay dc__law_delay pm__law_delay an__law_delay cd__law_delay ct__law_delay), (fun_mk (st := s__law_delay) l__law_delay c__law_delay k__law_delay), ((fun_mk (st := s__law_delay) l__law_delay c__law_delay k__law_delay).binds (ps := ["count", "most"]) fun _ _ _ _ _ _ us hl => match us, hl with | [_, _], _ => rfl), (PySem.W.mg_of X G g__law_delay), f__law_leave, (PySem.W.fnOf "_law_leave" "_law_leave" (defArgs s__law_leave) (defBody s__law_leave) (defScope s__law_leave) .none kV__law_leave dc__law_leave pm__law_leave an__law_leave cd__law_leave ct__law_leave), (fun_mk (st := s__law_leave) l__law_leave c__law_leave k__law_leave), ((fun_mk (st := s__law_leave) l__law_leave c__law_leave k__law_leave).binds (ps := ["waiting", "work", "again", "delayed", "failures", "most", "key", "failed"]) fun _ _ _ _ _ _ us hl => match us, hl with | [_, _, _, _, _, _, _, _], _ => rfl), (PySem.W.mg_of X G g__law_leave), f__law_tick, (PySem.W.fnOf "_law_tick" "_law_tick" (defArgs s__law_tick) (defBody s__law_tick) (defScope s__law_tick) .none kV__law_tick dc__law_tick pm__law_tick an__law_tick cd__law_tick ct__law_tick), (fun_mk (st := s__law_tick) l__law_tick c__law_tick k__law_tick), ((fun_mk (st := s__law_tick) l__law_tick c__law_tick k__law_tick).binds (ps := ["waiting", "work", "again", "delayed"]) fun _ _ _ _ _ _ us hl => match us, hl with | [_, _, _, _], _ => rfl), (PySem.W.mg_of X G g__law_tick), f__law_refused, (PySem.W.fnOf "_law_refused" "_law_refused" (defArgs s__law_refused) (defBody s__law_refused) (defScope s__law_refused) .none kV__law_refused dc__law_refused pm__law_refused an__law_refused cd__law_refused ct__law_refused), (fun_mk (st := s__law_refused) l__law_refused c__law_refused k__law_refused), ((fun_mk (st := s__law_refused) l__law_refused c__law_refused k__law_refused).binds (ps := ["queue", "key", "failed"]) fun _ _ _ _ _ _ us hl => match us, hl with | [_, _, _], _ => rfl), (PySem.W.mg_of X G g__law_refused), f__law_same, (PySem.W.fnOf "_law_same" "_law_same" (defArgs s__law_same) (defBody s__law_same) (defScope s__law_same) .none kV__law_same dc__law_same pm__law_same an__law_same cd__law_same ct__law_same), (fun_mk (st := s__law_same) l__law_same c__law_same k__law_same), ((fun_mk (st := s__law_same) l__law_same c__law_same k__law_same).binds (ps := ["queue", "waiting", "work", "delayed", "failures"]) fun _ _ _ _ _ _ us hl => match us, hl with | [_, _, _, _, _], _ => rfl), (PySem.W.mg_of X G g__law_same), f__law_report, (PySem.W.fnOf "_law_report" "_law_report" (defArgs s__law_report) (defBody s__law_report) (defScope s__law_report) .none kV__law_report dc__law_report pm__law_report an__law_report cd__law_report ct__law_report), (fun_mk (st := s__law_report) l__law_report c__law_report k__law_report), ((fun_mk (st := s__law_report) l__law_report c__law_report k__law_report).binds (ps := ["queue", "waiting", "work", "again", "delayed", "failures", "most", "key", "failed"]) fun _ _ _ _ _ _ us hl => match us, hl with | [_, _, _, _, _, _, _, _, _], _ => rfl), (PySem.W.mg_of X G g__law_report), f__law_deed, (PySem.W.fnOf "_law_deed" "_law_deed" (defArgs s__law_deed) (defBody s__law_deed) (defScope s__law_deed) .none kV__law_deed dc__law_deed pm__law_deed an__law_deed cd__law_deed ct__law_deed), (fun_mk (st := s__law_deed) l__law_deed c__law_deed k__law_deed), ((fun_mk (st := s__law_deed) l__law_deed c__law_deed k__law_deed).binds (ps := ["queue", "waiting", "work", "again", "delayed", "failures", "most", "number"]) fun _ _ _ _ _ _ us hl => match us, hl with | [_, _, _, _, _, _, _, _], _ => rfl), (PySem.W.mg_of X G g__law_deed), f_law, (PySem.W.fnOf "law" "law" (defArgs s_law) (defBody s_law) (defScope s_law) .none kV_law dc_law pm_law an_law cd_law ct_law), (fun_mk (st := s_law) l_law c_law k_law), ((fun_mk (st := s_law) l_law c_law k_law).binds (ps := ["script"]) fun _ _ _ _ _ _ us hl => match us, hl with | [_], _ => rfl), (PySem.W.mg_of X G g_law), ⟨⟨onm_NotTaken, oq_NotTaken, oN_NotTaken, obs_NotTaken, _, osn_NotTaken, osub_NotTaken, oab_NotTaken, ocol_NotTaken, odd_NotTaken, o0_NotTaken, o1_NotTaken, o2_NotTaken, o3_NotTaken, o5_NotTaken, ox_NotTaken, rfl⟩, osa_NotTaken, s_NotTaken, t_NotTaken, k_NotTaken⟩, m_NotTaken___init__, oti_NotTaken, ⟨Xhg_NotTaken, Xhk_NotTaken, Xhs_NotTaken, Xhd_NotTaken⟩, ona_NotTaken_key, ⟨pg_WorkQueue, hd_WorkQueue, po_WorkQueue, sa_WorkQueue⟩, (PySem.W.mg_of X G gc_WorkQueue), ⟨mk_WorkQueue, m_WorkQueue___init__, i_WorkQueue___init__, kc_WorkQueue⟩, na_WorkQueue__most, na_WorkQueue__waiting, na_WorkQueue__working, na_WorkQueue__ticks, na_WorkQueue__failures, (PySem.W.mg_none_of X G n_list), (PySem.W.mg_none_of X G n_sorted), (PySem.W.mg_none_of X G n_min), (PySem.W.mg_none_of X G n_range), (PySem.W.mg_none_of X G n_int), (PySem.W.mg_none_of X G n_isinstance), (PySem.W.mg_none_of X G n_len)⟩
  exact ⟨T.d_law, fun s v => .of_eq rfl, fun base _ _ => ok_law T⟩
end My
open PySem PySem.W PyProof.Rows
set_option maxHeartbeats 0 in
theorem PySem.Challenge.cw_majordomo_k44_work_queue_by_model_holds : PySem.Challenge.rw_majordomo_k44_work_queue_by_model.Holds := by
  w_on; o_law; k_head; (case hw => w_witness2)
  k_fill
  refine L2.walk_of (l := PySem.Challenge.rw_majordomo_k44_work_queue_by_model) (n := 63) (k := 8) (x := "script") (CX := (fun _ => L2.CX0)) (sp := fun w => My.sp_law _) rfl (by decide) rfl ⟨rfl, by decide, by decide⟩ (fun w h Y => PySem.W.kIn_of Y) ?F (fun _ _ a ns hl _ hS => ⟨a, ns, rfl, hS, hl, fun _ => rfl⟩) (fun _ _ _ _ _ h => h)
  case F =>
    intro w mg fa h KX G hmg
    refine' My.all_mk KX G hmg ?g_MajordomoError ?x_MajordomoError ?k_MajordomoError ?s_MajordomoError ?t_MajordomoError ?g_CallerError ?x_CallerError ?k_CallerError ?s_CallerError ?t_CallerError ?g_NotTaken ?k_NotTaken ?s_NotTaken ?t_NotTaken ?hx_NotTaken ?su_NotTaken ?Xhg_NotTaken ?Xhk_NotTaken ?Xhs_NotTaken ?Xhd_NotTaken ?Xha_NotTaken ?Xhn_NotTaken ?Xht_NotTaken ?Xhm_NotTaken ?y_NotTaken_MajordomoError ?m_NotTaken___init__ ?i_NotTaken___init__ ?l_NotTaken___init__ ?c_NotTaken___init__ ?k_NotTaken___init__ ?gc_WorkQueue ?m_WorkQueue___init__ ?i_WorkQueue___init__ ?l_WorkQueue___init__ ?c_WorkQueue___init__ ?k_WorkQueue___init__ ?kq_WorkQueue___init___most ?m_WorkQueue_add ?i_WorkQueue_add ?l_WorkQueue_add ?c_WorkQueue_add ?k_WorkQueue_add ?m_WorkQueue_add_later ?i_WorkQueue_add_later ?l_WorkQueue_add_later ?c_WorkQueue_add_later ?k_WorkQueue_add_later ?m_WorkQueue_tick ?i_WorkQueue_tick ?l_WorkQueue_tick ?c_WorkQueue_tick ?k_WorkQueue_tick ?m_WorkQueue_take ?i_WorkQueue_take ?l_WorkQueue_take ?c_WorkQueue_take ?k_WorkQueue_take ?m_WorkQueue_finish ?i_WorkQueue_finish ?l_WorkQueue_finish ?c_WorkQueue_finish ?k_WorkQueue_finish ?m_WorkQueue_fail ?i_WorkQueue_fail ?l_WorkQueue_fail ?c_WorkQueue_fail ?k_WorkQueue_fail ?m_WorkQueue__leave ?i_WorkQueue__leave ?l_WorkQueue__leave ?c_WorkQueue__leave ?k_WorkQueue__leave ?m_WorkQueue__delay ?i_WorkQueue__delay ?l_WorkQueue__delay ?c_WorkQueue__delay ?k_WorkQueue__delay ?m_WorkQueue_waiting ?i_WorkQueue_waiting ?l_WorkQueue_waiting ?c_WorkQueue_waiting ?k_WorkQueue_waiting ?m_WorkQueue_in_work ?i_WorkQueue_in_work ?l_WorkQueue_in_work ?c_WorkQueue_in_work ?k_WorkQueue_in_work ?m_WorkQueue_delayed ?i_WorkQueue_delayed ?l_WorkQueue_delayed ?c_WorkQueue_delayed ?k_WorkQueue_delayed ?m_WorkQueue_failures ?i_WorkQueue_failures ?l_WorkQueue_failures ?c_WorkQueue_failures ?k_WorkQueue_failures ?g__law_mix ?l__law_mix ?c__law_mix ?k__law_mix ?g__law_row ?l__law_row ?c__law_row ?k__law_row ?g__law_key ?l__law_key ?c__law_key ?k__law_key ?g__law_add ?l__law_add ?c__law_add ?k__law_add ?g__law_add_later ?l__law_add_later ?c__law_add_later ?k__law_add_later ?g__law_delay ?l__law_delay ?c__law_delay ?k__law_delay ?g__law_leave ?l__law_leave ?c__law_leave ?k__law_leave ?g__law_tick ?l__law_tick ?c__law_tick ?k__law_tick ?g__law_refused ?l__law_refused ?c__law_refused ?k__law_refused ?g__law_same ?l__law_same ?c__law_same ?k__law_same ?g__law_report ?l__law_report ?c__law_report ?k__law_report ?g__law_deed ?l__law_deed ?c__law_deed ?k__law_deed ?g_law ?l_law ?c_law ?k_law ?ox_NotTaken ?osa_NotTaken ?oti_NotTaken ?ona_NotTaken_key ?pg_WorkQueue ?hd_WorkQueue ?po_WorkQueue ?sa_WorkQueue ?mk_WorkQueue ?kc_WorkQueue ?na_WorkQueue__most ?na_WorkQueue__waiting ?na_WorkQueue__working ?na_WorkQueue__ticks ?na_WorkQueue__failures ?n_list ?n_sorted ?n_min ?n_range ?n_int ?n_isinstance ?n_len
    (case g_MajordomoError => k_is); (case x_MajordomoError => k_exc); (case k_MajordomoError => k_is); (case s_MajordomoError => k_is); (case t_MajordomoError => k_is); (case g_CallerError => k_is); (case x_CallerError => k_exc); (case k_CallerError => k_is); (case s_CallerError => k_is); (case t_CallerError => k_is); (case g_NotTaken => k_is); (case k_NotTaken => k_is); (case s_NotTaken => k_is); (case t_NotTaken => k_is); (case hx_NotTaken => k_is); (case su_NotTaken => k_is); (case Xhg_NotTaken => k_is); (case Xhk_NotTaken => k_is); (case Xhs_NotTaken => k_is); (case Xhd_NotTaken => k_is); (case Xha_NotTaken => k_is); (case Xhn_NotTaken => k_is); (case Xht_NotTaken => k_is); (case Xhm_NotTaken => k_is); (case y_NotTaken_MajordomoError => kit_is); (case m_NotTaken___init__ => k_is); (case i_NotTaken___init__ => k_is); (case l_NotTaken___init__ => k_is); (case c_NotTaken___init__ => k_is); (case k_NotTaken___init__ => k_is); (case gc_WorkQueue => k_is); (case m_WorkQueue___init__ => k_is); (case i_WorkQueue___init__ => k_is); (case l_WorkQueue___init__ => k_is); (case c_WorkQueue___init__ => k_is); (case k_WorkQueue___init__ => k_is); (case kq_WorkQueue___init___most => k_is); (case m_WorkQueue_add => k_is); (case i_WorkQueue_add => k_is); (case l_WorkQueue_add => k_is); (case c_WorkQueue_add => k_is); (case k_WorkQueue_add => k_is); (case m_WorkQueue_add_later => k_is); (case i_WorkQueue_add_later => k_is); (case l_WorkQueue_add_later => k_is); (case c_WorkQueue_add_later => k_is); (case k_WorkQueue_add_later => k_is); (case m_WorkQueue_tick => k_is); (case i_WorkQueue_tick => k_is); (case l_WorkQueue_tick => k_is); (case c_WorkQueue_tick => k_is); (case k_WorkQueue_tick => k_is); (case m_WorkQueue_take => k_is); (case i_WorkQueue_take => k_is); (case l_WorkQueue_take => k_is); (case c_WorkQueue_take => k_is); (case k_WorkQueue_take => k_is); (case m_WorkQueue_finish => k_is); (case i_WorkQueue_finish => k_is); (case l_WorkQueue_finish => k_is); (case c_WorkQueue_finish => k_is); (case k_WorkQueue_finish => k_is); (case m_WorkQueue_fail => k_is); (case i_WorkQueue_fail => k_is); (case l_WorkQueue_fail => k_is); (case c_WorkQueue_fail => k_is); (case k_WorkQueue_fail => k_is); (case m_WorkQueue__leave => k_is); (case i_WorkQueue__leave => k_is); (case l_WorkQueue__leave => k_is); (case c_WorkQueue__leave => k_is); (case k_WorkQueue__leave => k_is); (case m_WorkQueue__delay => k_is); (case i_WorkQueue__delay => k_is); (case l_WorkQueue__delay => k_is); (case c_WorkQueue__delay => k_is); (case k_WorkQueue__delay => k_is); (case m_WorkQueue_waiting => k_is); (case i_WorkQueue_waiting => k_is); (case l_WorkQueue_waiting => k_is); (case c_WorkQueue_waiting => k_is); (case k_WorkQueue_waiting => k_is); (case m_WorkQueue_in_work => k_is); (case i_WorkQueue_in_work => k_is); (case l_WorkQueue_in_work => k_is); (case c_WorkQueue_in_work => k_is); (case k_WorkQueue_in_work => k_is); (case m_WorkQueue_delayed => k_is); (case i_WorkQueue_delayed => k_is); (case l_WorkQueue_delayed => k_is); (case c_WorkQueue_delayed => k_is); (case k_WorkQueue_delayed => k_is); (case m_WorkQueue_failures => k_is); (case i_WorkQueue_failures => k_is); (case l_WorkQueue_failures => k_is); (case c_WorkQueue_failures => k_is); (case k_WorkQueue_failures => k_is); (case g__law_mix => k_is); (case l__law_mix => k_is); (case c__law_mix => k_is); (case k__law_mix => k_is); (case g__law_row => k_is); (case l__law_row => k_is); (case c__law_row => k_is); (case k__law_row => k_is); (case g__law_key => k_is); (case l__law_key => k_is); (case c__law_key => k_is); (case k__law_key => k_is); (case g__law_add => k_is); (case l__law_add => k_is); (case c__law_add => k_is); (case k__law_add => k_is); (case g__law_add_later => k_is); (case l__law_add_later => k_is); (case c__law_add_later => k_is); (case k__law_add_later => k_is); (case g__law_delay => k_is); (case l__law_delay => k_is); (case c__law_delay => k_is); (case k__law_delay => k_is); (case g__law_leave => k_is); (case l__law_leave => k_is); (case c__law_leave => k_is); (case k__law_leave => k_is); (case g__law_tick => k_is); (case l__law_tick => k_is); (case c__law_tick => k_is); (case k__law_tick => k_is); (case g__law_refused => k_is); (case l__law_refused => k_is); (case c__law_refused => k_is); (case k__law_refused => k_is); (case g__law_same => k_is); (case l__law_same => k_is); (case c__law_same => k_is); (case k__law_same => k_is); (case g__law_report => k_is); (case l__law_report => k_is); (case c__law_report => k_is); (case k__law_report => k_is); (case g__law_deed => k_is); (case l__law_deed => k_is); (case c__law_deed => k_is); (case k__law_deed => k_is); (case g_law => k_is); (case l_law => k_is); (case c_law => k_is); (case k_law => k_is); (case ox_NotTaken => k_is); (case osa_NotTaken => k_is); (case oti_NotTaken => k_is); (case ona_NotTaken_key => k_is); (case pg_WorkQueue => k_is); (case hd_WorkQueue => k_is); (case po_WorkQueue => k_is); (case sa_WorkQueue => k_is); (case mk_WorkQueue => k_is); (case kc_WorkQueue => k_is); (case na_WorkQueue__most => k_is); (case na_WorkQueue__waiting => k_is); (case na_WorkQueue__working => k_is); (case na_WorkQueue__ticks => k_is); (case na_WorkQueue__failures => k_is); (case n_list => k_is); (case n_sorted => k_is); (case n_min => k_is); (case n_range => k_is); (case n_int => k_is); (case n_isinstance => k_is); (case n_len => k_is)

