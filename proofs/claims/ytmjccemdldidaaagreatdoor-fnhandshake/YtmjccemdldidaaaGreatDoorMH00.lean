import Derived.WalkKit
import Derived.ProofKit
import Derived.WalkLawsBesides
import Derived.Deep.QuietTactic
import Derived.BigQuiet
import Derived.Laws.Rows
import Derived.StillTail
import Derived.Deep.MidRow
import Derived.OrdersHeld
import Derived.Deep.Quiet
namespace Go.Proofs.YtmjccemdldidaaaGreatDoor
open Go.RowKit
open Go
open Go renaming heap_alloc_new → hAN
open Go.World renaming size_alloc → wU
open List renaming length_append → lQ, length_replicate → rJ, length_set → lJ, mem_cons_of_mem → mC, mem_cons_self → mQ, not_mem_nil → nY, replicate → rQ, setIfInBounds_toArray → sU
open Nat renaming le_refl → nQ, lt_of_lt_of_le → nJ
set_option linter.unusedVariables false
abbrev LI:=List (Int)
def Iv (k:IntKind) (l:LI):Array Value:=(l.map (Value.int k)).toArray
theorem aD (k:IntKind) (l:LI):(Iv k l).size=l.length:=by simp[Iv]
theorem aG (k:IntKind) (l:LI):(Iv k l).all (·.oneCell')=true:=by simp[Iv,Value.oneCell']
theorem dG (k:IntKind) (l:LI) (i:Nat) (h:i<l.length):(Iv k l)[i]? =some (.int k l[i]):=by simp[Iv,h]
theorem nD (k:IntKind) (l:LI) (i:Nat) (h:i<l.length):∃v,(Iv k l)[i]? =some v:=⟨_,dG k l i h⟩
theorem bZ (k:IntKind) (l:LI) (i:Nat) (x:Int):(Iv k l).setIfInBounds i (.int k x)=Iv k (l.set i x):=by
 unfold Iv
 rw[sU,←List.map_set]
theorem wW (l:LI) (n k:Nat) (hl:l.length=n) (h:k<n) (z:Int):
 (l.take k++rQ (n - k) z).set k l[k]=l.take (k+1)++rQ (n - (k+1)) z:=by
 subst hl
 apply List.ext_getElem
 ·simp;omega
 ·intro i h1 h2
  simp only[lJ,lQ,List.length_take,rJ]at h1
  simp only[List.getElem_set,List.getElem_append,List.length_take,List.getElem_take,List.getElem_replicate]
  split<;>rename_i hk
  ·subst hk;rw[dif_pos (by omega)]
  ·split<;>split<;>first|rfl|omega
theorem T6 (l:LI) (n:Nat) (z:Int):l.take 0++rQ (n - 0) z=rQ n z:=by simp
theorem acA (l:LI) (n:Nat) (hl:l.length=n) (z:Int):l.take n++rQ (n - n) z=l:=by simp[←hl]
theorem cI (w:World) (o:Obj) (i:Nat):(w.alloc o).heap[i]? =if i=w.heap.size then some o else w.heap[i]? :=by
 show(w.heap.push o)[i]? =_
 exact Array.getElem?_push
theorem aO {B:Nat} {a w:World} (h:Below B a w) (g:Nat) (hg:B≤g) (cs:Array Value):Below B a (w.setRow g cs):=by
 refine⟨h.os,h.tape,h.output,?_,?_⟩
 ·simpa using h.size
 ·intro k hk
  rw[←h.block k hk]
  simp[World.setRow,Array.getElem?_modify]
  omega
theorem cG (w:World) (g k:Nat) (cs:Array Value) (h:k≠g):(w.setRow g cs).heap[k]? =w.heap[k]? :=by
 simp[World.setRow,Array.getElem?_modify]
 omega
theorem eS (w:World) (g i:Nat) (C old:Array Value) (t:TypeId) (fr:Nat×Nat) (hg:w.heap[g]? =some (.cells old t fr)):(w.setRow g C).cell? ⟨g,i,none⟩=C[i]? :=by
 rw[cell_of_row _ _ _ _ _ _ (setRow_heap w g old C t fr hg)]
theorem bB (w:World) (g:Nat) (C:Array Value) (a:Addr) (h:a.block≠g):(w.setRow g C).cell? a=w.cell? a:=by
 unfold World.cell?
 rw[cG _ _ _ _ h]
theorem iJ (w:World) (g:Nat) (C:Array Value) (a:Addr):(w.setRow g C).frozen? a=w.frozen? a:=by
 unfold World.frozen?
 by_cases h:a.block=g
 ·subst h
  simp only[World.setRow,Array.getElem?_modify,if_true]
  cases w.heap[a.block]? with
  | none=>rfl
  | some o=>cases o<;>rfl
 ·rw[cG _ _ _ _ h]
theorem aK (w:World) (g i:Nat) (C:Array Value) (v:Value):(w.setRow g C).setCell ⟨g,i,none⟩ v=w.setRow g (C.setIfInBounds i v):=by
 simp only[World.setRow,World.setCell]
 congr 1
 apply Array.ext_getElem?
 intro j
 simp only[Array.getElem?_modify]
 by_cases h:g=j
 ·subst h
  simp only[if_true]
  cases w.heap[g]? with
  | none=>rfl
  | some o=>cases o<;>rfl
 ·simp only[if_neg h]
theorem KM (w:World) (g:Nat) (C D:Array Value):(w.setRow g C).setRow g D=w.setRow g D:=by
 simp only[World.setRow]
 congr 1
 apply Array.ext_getElem?
 intro j
 simp only[Array.getElem?_modify]
 by_cases h:g=j
 ·subst h
  simp only[if_true]
  cases w.heap[g]? with
  | none=>rfl
  | some o=>cases o<;>rfl
 ·simp only[if_neg h]
theorem iE (w:World) (g:Nat) (C:Array Value) (t:TypeId) (fr:Nat×Nat) (hg:w.heap[g]? =some (.cells C t fr)):w.setRow g C=w:=by
 cases w with
 | mk heap tape drawn os output=>
   simp only[World.setRow]
   congr 1
   apply Array.ext_getElem?
   intro j
   simp only[Array.getElem?_modify]
   by_cases h:g=j
   ·subst h
    simp only[if_true]
    simp only at hg
    rw[hg]
    rfl
   ·simp only[if_neg h]
theorem O0 (w:World) (c C:Array Value) (t:TypeId):(w.alloc (.cells c t)).setRow w.heap.size C=w.alloc (.cells C t):=by
 simp only[World.setRow,World.alloc]
 congr 1
 apply Array.ext_getElem?
 intro j
 simp only[Array.getElem?_modify,Array.getElem?_push]
 by_cases h:w.heap.size=j
 ·subst h
  simp
 ·simp only[if_neg h,if_neg (Ne.symm h)]
theorem qK (w:World) (c C:Array Value) (t:TypeId) (g:Nat) (hg:g=w.heap.size):(w.alloc (.cells c t)).setRow g C=w.alloc (.cells C t):=by
 subst hg
 exact O0 w c C t
theorem wV (w:World) (g:Nat) (C:Array Value):w.drew.setRow g C=(w.setRow g C).drew:=rfl
theorem sZ (w:World) (a:Addr) (d:Nat) (v:Value):(w.drewN d).setCell a v=(w.setCell a v).drewN d:=rfl
theorem acW (k:IntKind) (a b c d e:Int):(#[Value.int k a,.int k b,.int k c,.int k d,.int k e].all (·.oneCell'))=true:=by simp[Value.oneCell']
theorem bDr {B:Nat} {a w:World} (h:Below B a w) (n:Nat):Below B a (w.drewN n):=⟨h.os,h.tape,h.output,h.size,h.block⟩
theorem pW {P:Program} {fn:Func} {R:Ending→World→Prop} {tmps:Array Value} {w:World} {p:Tmp} {ty:TypeId} {g:Nat} {t:TypeId} {cs:Array Value} {fr:Nat×Nat} {n:Nat} {e:TypeId}
 (h:fn.results=#[.cell p ty]) (hp:tmps.getD p undef=.pointer (some ⟨g,0,none⟩)) (hg:w.heap[g]? =some (.cells cs t fr))
 (hu:P.underlying ty=some (.array n e)) (hi:(P.info? ty).map (·.size)=some cs.size) (hR:R (.returned (.agg cs)) w):
 bodyPost P fn R .ret { tmps:=tmps,defers:=[] } w:=
 bodyPost_ret (v:=.agg cs) (results_cell_row h tmps w g t cs fr (.array n e) hp hg hu rfl hi) rfl hR
theorem hU {w:World} {g:Nat} {c0 c1 c2 c3 c4:Value} {t:TypeId} {fr:Nat×Nat} (h:w.heap[g]? =some (.cells #[c0,c1,c2,c3,c4] t fr)):
 w.cell? ⟨g,0,none⟩=some c0∧w.cell? ⟨g,1,none⟩=some c1∧w.cell? ⟨g,2,none⟩=some c2∧w.cell? ⟨g,3,none⟩=some c3∧w.cell? ⟨g,4,none⟩=some c4:=
 ⟨cell_of_row w g 0 _ _ _ h,cell_of_row w g 1 _ _ _ h,cell_of_row w g 2 _ _ _ h,cell_of_row w g 3 _ _ _ h,cell_of_row w g 4 _ _ _ h⟩
theorem alJ {w:World} {g:Nat} {c0 c1 c2 c3 c4:Value} {t:TypeId} (h:w.heap[g]? =some (.cells #[c0,c1,c2,c3,c4] t)) (d0 d1 d2 d3 d4:Value):
 (((((w.setCell ⟨g,0,none⟩ d0).setCell ⟨g,1,none⟩ d1).setCell ⟨g,2,none⟩ d2).setCell ⟨g,3,none⟩ d3).setCell ⟨g,4,none⟩ d4)=w.setRow g #[d0,d1,d2,d3,d4]:=by
 have e0:w.setCell ⟨g,0,none⟩ d0=w.setRow g #[d0,c1,c2,c3,c4]:=by
  rw[setCell_eq_setRow w g 0 _ t (0,0) d0 h]
  rfl
 rw[e0,aK,aK,aK,aK]
 rfl
theorem MD (k:IntKind) (n:Nat):madeCells #[Value.int k 0] n=Iv k (rQ n 0):=by
 rw[←Array.toArray_toList (xs:=madeCells #[Value.int k 0] n),toList_madeCells_one]
 simp[Iv]
theorem ME {P:Program} (t e:TypeId) (k:IntKind) (bytes n:Nat) (ht:P.underlying t=some (.slice e)) (hinfo:(P.info? e).map (fun i=>(i.zero,i.size,i.bytes))=some (some (.int k 0),1,bytes))
 (hb:bytes*n≤281474976710656) (hn:n≤9223372036854775807) (w:World):
 (Instr.makeSlice t (.int .i64 (n:Int)) (.int .i64 (n:Int))).run P w=.ok (.slice (some ⟨w.heap.size,0,none⟩) n n) (w.alloc (.cells (Iv k (rQ n 0)) e)):=by
 obtain⟨i,hi,hz,hs,hby⟩:=info_parts hinfo
 have h:=run_make (P:=P) w t e i (.int k 0) ht hi hz .i64 .i64 (n:Int) (n:Int) (by omega) (by omega) (by rw[hby,←Int.natCast_mul];omega) (by omega)
 rw[h,hs]
 simp only[Int.toNat_natCast,Nat.mul_one]
 rw[show(Value.int k 0).cells=#[Value.int k 0]from rfl,MD]
theorem iU (w:World) (o0 o1:Obj):∃W,(w.alloc o0).alloc o1=W∧W.heap[w.heap.size]? =some o0∧W.heap[w.heap.size+1]? =some o1∧W.heap.size=w.heap.size+1+1∧Below w.heap.size w W:=by
 refine⟨_,rfl,?_,?_,by simp,((Below.refl _ _).alloc (by simp) _).alloc (by simp) _⟩
 ·simp only[cI,wU];(repeat(first|rw[if_neg (by omega)]|rw[if_pos (by omega)]));try rfl
 ·simp only[cI,wU];(repeat(first|rw[if_neg (by omega)]|rw[if_pos (by omega)]));try rfl
theorem pL (w:World) (o0 o1 o2:Obj):∃W,((w.alloc o0).alloc o1).alloc o2=W∧W.heap[w.heap.size]? =some o0∧W.heap[w.heap.size+1]? =some o1∧W.heap[w.heap.size+1+1]? =some o2∧W.heap.size=w.heap.size+1+1+1∧Below w.heap.size w W:=by
 refine⟨_,rfl,?_,?_,?_,by simp,(((Below.refl _ _).alloc (by simp) _).alloc (by simp) _).alloc (by simp;omega) _⟩
 ·simp only[cI,wU];(repeat(first|rw[if_neg (by omega)]|rw[if_pos (by omega)]));try rfl
 ·simp only[cI,wU];(repeat(first|rw[if_neg (by omega)]|rw[if_pos (by omega)]));try rfl
 ·simp only[cI,wU];(repeat(first|rw[if_neg (by omega)]|rw[if_pos (by omega)]));try rfl
theorem sQ (w:World) (o0 o1 o2 o3:Obj):∃W,(((w.alloc o0).alloc o1).alloc o2).alloc o3=W∧W.heap[w.heap.size]? =some o0∧W.heap[w.heap.size+1]? =some o1∧W.heap[w.heap.size+1+1]? =some o2∧W.heap[w.heap.size+1+1+1]? =some o3∧W.heap.size=w.heap.size+1+1+1+1∧Below w.heap.size w W:=by
 refine⟨_,rfl,?_,?_,?_,?_,by simp,((((Below.refl _ _).alloc (by simp) _).alloc (by simp) _).alloc (by simp;omega) _).alloc (by simp;omega) _⟩
 ·simp only[cI,wU];(repeat(first|rw[if_neg (by omega)]|rw[if_pos (by omega)]));try rfl
 ·simp only[cI,wU];(repeat(first|rw[if_neg (by omega)]|rw[if_pos (by omega)]));try rfl
 ·simp only[cI,wU];(repeat(first|rw[if_neg (by omega)]|rw[if_pos (by omega)]));try rfl
 ·simp only[cI,wU];(repeat(first|rw[if_neg (by omega)]|rw[if_pos (by omega)]));try rfl
def aE (w:World) (g:Nat) (k:IntKind) (l:LI) (t:TypeId):Prop:=w.heap[g]? =some (.cells (Iv k l) t)
theorem aE.lt {w:World} {g:Nat} {k:IntKind} {l:LI} {t:TypeId} (h:aE w g k l t):g<w.heap.size:=(Array.getElem?_eq_some_iff.1 h).1
theorem aE.far {w:World} {g:Nat} {k:IntKind} {l:LI} {t:TypeId} (h:aE w g k l t) (g':Nat) (cs:Array Value) (hne:g≠g') (d:Nat):aE ((w.setRow g' cs).drewN d) g k l t:=(cG w g' g cs hne).trans h
theorem aE.put {w:World} {g:Nat} {k:IntKind} {l:LI} {t:TypeId} (h:aE w g k l t) (l':LI) (d:Nat):aE ((w.setRow g (Iv k l')).drewN d) g k l' t:=setRow_heap w g _ _ _ _ h
theorem aE.setCell {w:World} {g:Nat} {k:IntKind} {l:LI} {t:TypeId} (h:aE w g k l t) (i:Nat) (x:Int):aE (w.setCell ⟨g,i,none⟩ (.int k x)) g k (l.set i x) t:=by
 show _=_
 rw[setCell_eq_setRow w g i _ t (0,0) _ h,bZ]
 exact setRow_heap _ _ _ _ _ _ h
theorem aE.setFar {w:World} {g:Nat} {k:IntKind} {l:LI} {t:TypeId} (h:aE w g k l t) (a:Addr) (v:Value) (hne:a.block≠g):aE (w.setCell a v) g k l t:=(heap_setCell_other w a g v (fun e=>hne e.symm)).trans h
theorem aE.frozen {w:World} {g:Nat} {k:IntKind} {l:LI} {t:TypeId} (h:aE w g k l t) (i:Nat):w.frozen? ⟨g,i,none⟩=false:=frozen_of_row _ _ _ _ _ h
theorem aE.below {w w':World} {g B:Nat} {k:IntKind} {l:LI} {t:TypeId} (h:aE w g k l t) (hb:Below B w w') (hg:g<B):aE w' g k l t:=(hb.block g hg).trans h
theorem aE.cell {w:World} {g:Nat} {k:IntKind} {l:LI} {t:TypeId} (h:aE w g k l t) (i:Nat) (hi:i<l.length):w.cell? ⟨g,i,none⟩=some (.int k (l.getD i 0)):=by
 rw[cell_of_row _ _ _ _ _ _ h,dG k l i hi]
 simp[hi]
theorem rN {P:Program} {ops:Array Oper} {W:World} {Q:Act→Prop}:∀(l:List Oper) (a:Act),wpQuiet P ops (fun w'=>w'=W) Q l a→wpStill P ops W Q l a
 | [],_,h=>h
 | o::rest,a,h=>by
   unfold wpQuiet at h
   unfold wpStill
   split
   ·rename_i hw
    simp only[hw,if_true]at h
    obtain⟨v,h1,h2⟩:=h
    have h3:=h1 W rfl
    have h4:=rN rest _ h2
    unfold Oper.quietAt at h3
    unfold Oper.still
    generalize(execOp a.eval o).run P W=r at*
    cases r with
    | ok n w'=>
      cases n<;>simp only[Oper.quietUpon]at h3<;>simp only[Oper.stillUpon]
      case value u=>obtain⟨e1,e2⟩:=h3;subst e2;exact⟨e1,h4⟩
      case skip=>obtain⟨e1,e2⟩:=h3;subst e2;exact⟨e1,h4⟩
      case enter f args=>obtain⟨e1,hc⟩:=h3;exact⟨e1,v,hc,h4⟩
    | halt x w'=>simp only[Oper.quietUpon]at h3
   ·rename_i hw
    simp only[hw]at h
    exact rN rest _ h
theorem wRh {P:Program} {id:Nat} {Q:Exit→Act→World→Prop} {a:Act} {w:World} {l:List Oper} (n:Nat) (hm:P.follows .mixedOrders=true) (hB:Region.lexTailB .any l.toArray n=true)
 (h:wpQuiet P l.toArray (fun w'=>w'=w.drew) (fun a'=>wpList P l.toArray Q (l.drop n) a' w.drew) (l.take n) a):(Code.region id l.toArray true).wp P Q a w:=
 wp_region_still_tail n hm hB (rN _ _ h)
theorem sH {p:Prop} (h:Hid p):p:=h.out
theorem aH {p:Prop} (h:p):Hid p:=h
def MP (cs:Array Value):Nat→List Value→Array Value
 | _,[]=>cs
 | o,v::r=>MP (cs.setIfInBounds o v) (o+1) r
theorem nN:∀(vs:List Value) (w:World) (g o:Nat) (cs:Array Value) (t:TypeId) (fr:Nat×Nat),w.heap[g]? =some (.cells cs t fr)→w.setCells g o vs=w.setRow g (MP cs o vs)
 | [],w,g,o,cs,t,fr,h=>(iE w g cs t fr h).symm
 | v::r,w,g,o,cs,t,fr,h=>by
   rw[World.setCells,setCell_eq_setRow w g o _ t fr v h,nN r _ g (o+1) _ t fr (setRow_heap w g cs _ t fr h),KM]
   rfl
theorem zU:∀(vs:List Value) (l:List Value) (o:Nat),o+vs.length≤l.length→MP l.toArray o vs=(l.take o++vs++l.drop (o+vs.length)).toArray
 | [],l,o,h=>by simp[MP]
 | v::r,l,o,h=>by
   simp only[List.length_cons]at h
   rw[MP,sU,zU r _ (o+1) (by simp;omega)]
   congr 1
   apply List.ext_getElem?
   intro i
   simp only[List.getElem?_append,lQ,List.length_take,lJ,List.length_cons,List.getElem?_drop,List.getElem?_take,List.getElem?_set]
   by_cases h1:i<o
   ·rw[if_pos (by omega),if_pos (by omega),if_pos (by omega),if_neg (by omega),if_pos (by omega),if_pos (by omega),if_pos (by omega)]
   ·by_cases h2:i=o
    ·subst h2
     rw[if_pos (by omega),if_pos (by omega),if_pos (by omega),if_pos rfl,if_pos (by omega),if_pos (by omega),if_neg (by omega)]
     simp[show min i l.length=i by omega]
    ·by_cases h3:i<o+1+r.length
     ·rw[if_pos (by omega),if_neg (by omega),if_pos (by omega),if_neg (by omega)]
      rw[show i - min o l.length=(i - min (o+1) l.length)+1 by omega,List.getElem?_cons_succ]
     ·rw[if_neg (by omega),if_neg (by omega),if_neg (by omega)]
      congr 1
      omega
theorem CL {P:Program} {ops:Array Oper} {rest:List Oper} {op:Oper} {a:Act} {w:World} {Q:Exit→Act→World→Prop} (hgd:op.guard=none) (ty:TypeId) (x y:Operand) (ho:op.op=.store ty x y)
 (g o:Nat) (vs:List Value) (hx:a.eval x=.pointer (some ⟨g,o,none⟩)) (hy:a.eval y=.agg vs.toArray) (l:List Value) (t:TypeId) (hg:w.heap[g]? =some (.cells l.toArray t))
 (hi:(P.info? ty).map (·.size)=some vs.length) (hfit:o+vs.length≤l.length) (h1:vs.all (·.oneCell')=true)
 (h:wpList P ops Q rest (a.put op.dst undef) (w.setRow g (l.take o++vs++l.drop (o+vs.length)).toArray)):wpList P ops Q (op::rest) a w:=by
 rw[←zU vs l o hfit,←nN vs w g o l.toArray t (0,0) hg]at h
 refine wpList_store_mid hgd ty x y ho g o vs.toArray hx hy ?_ (by simpa using hi) (by simpa using h1) (by simpa using h)
 intro j hj
 simp only[List.size_toArray]at hj
 refine⟨?_,frozen_of_row w g _ _ t hg⟩
 rw[cell_of_row _ _ _ _ _ _ hg]
 simp
 omega
structure nE (w:World) (g:Nat) (cs:Array Value) (t:TypeId) (W:World):Prop where
 here:W.heap[g]? =some (.cells cs t)
 far:∀k,k≠g→W.heap[k]? =w.heap[k]?
 size:W.heap.size=w.heap.size
 below:∀B a,Below B a w→B≤g→Below B a W
theorem fT {w:World} {g:Nat} {old:Array Value} {t:TypeId} (h:w.heap[g]? =some (.cells old t)) (cs:Array Value):nE w g cs t (w.setRow g cs):=
 ⟨setRow_heap w g old cs t (0,0) h,fun k hk=>cG w g k cs hk,by simp,fun B a hb hg=>aO hb g hg cs⟩
theorem wpPp {P:Program} {ops:Array Oper} {rest:List Oper} {op:Oper} {a:Act} {w:World} {Q:Exit→Act→World→Prop} (hgd:op.guard=none) (ty:TypeId) (x y:Operand) (ho:op.op=.store ty x y)
 (g o:Nat) (vs:List Value) (hx:a.eval x=.pointer (some ⟨g,o,none⟩)) (hy:a.eval y=.agg vs.toArray) (l:List Value) (t:TypeId) (hg:w.heap[g]? =some (.cells l.toArray t))
 (new:List Value) (hi:(P.info? ty).map (·.size)=some vs.length) (hfit:o+vs.length≤l.length) (h1:vs.all (·.oneCell')=true) (hnew:l.take o++vs++l.drop (o+vs.length)=new)
 (h:∀W,nE w g new.toArray t W→wpList P ops Q rest (a.put op.dst undef) W):wpList P ops Q (op::rest) a w:=by
 subst hnew
 exact CL hgd ty x y ho g o vs hx hy l t hg hi hfit h1 (h _ (fT hg _))
theorem wpPr {P:Program} {ops:Array Oper} {rest:List Oper} {op:Oper} {a:Act} {w:World} {Q:Exit→Act→World→Prop} (hgd:op.guard=none) (ty:TypeId) (x y:Operand) (ho:op.op=.store ty x y)
 (g:Nat) (cs:Array Value) (hx:a.eval x=.pointer (some ⟨g,0,none⟩)) (hy:a.eval y=.agg cs) (t:TypeId) (old:Array Value) (hg:w.heap[g]? =some (.cells old t))
 (hi:(P.info? ty).map (·.size)=some cs.size) (hs:old.size=cs.size) (h1:cs.all (·.oneCell')=true)
 (h:∀W,nE w g cs t W→wpList P ops Q rest (a.put op.dst undef) W):wpList P ops Q (op::rest) a w:=
 wpList_store_row hgd ty x y ho g cs hx hy t old hg hi hs h1 (h _ (fT hg _))
theorem gZ {w:World} {g:Nat} {l:List Value} {t:TypeId} {fr:Nat×Nat} (hg:w.heap[g]? =some (.cells l.toArray t fr)) (o n:Nat):w.rangeAt g o ((l.drop o).take n):=by
 intro j v hj
 rw[cell_of_row _ _ _ _ _ _ hg]
 rw[List.getElem?_take]at hj
 split at hj
 ·rw[List.getElem?_drop]at hj
  simpa using hj
 ·cases hj
structure Rw (w0:World) (R:List (Nat×Array Value×TypeId)) (W:World):Prop where
 bel:Below w0.heap.size w0 W
 row:∀r∈R,w0.heap.size≤r.1∧r.1<W.heap.size∧W.heap[r.1]? =some (.cells r.2.1 r.2.2)
variable {w0:World} {R:List (Nat×Array Value×TypeId)} {W W':World}
theorem Rw.start (w0:World):Rw w0 [] w0:=⟨Below.refl _ _,fun r h=>(by cases h)⟩
theorem Rw.size (h:Rw w0 R W):w0.heap.size≤W.heap.size:=h.bel.size
theorem Rw.later {B:Nat} (h:Rw w0 R W) (hb:Below B W W') (hB:W.heap.size≤B):Rw w0 R W':=
 have hb':Below W.heap.size W W':=hb.mono hB
 ⟨h.bel.trans (hb'.mono h.size),fun r hr=>⟨(h.row r hr).1,nJ (h.row r hr).2.1 hb.size,(hb'.block _ (h.row r hr).2.1).trans (h.row r hr).2.2⟩⟩
theorem Rw.drew (h:Rw w0 R W):Rw w0 R W.drew:=h.later (bDr (Below.refl W.heap.size W) 1) (nQ _)
theorem Rw.alloc (h:Rw w0 R W) (cs:Array Value) (t:TypeId):Rw w0 ((W.heap.size,cs,t)::R) (W.alloc (.cells cs t)):=by
 have h1:=h.later ((Below.refl W.heap.size W).alloc (nQ _) (.cells cs t)) (nQ _)
 refine⟨h1.bel,fun r hr=>?_⟩
 rcases List.mem_cons.1 hr with rfl|hr
 ·exact⟨h.size,by simp,hAN _ _⟩
 ·exact h1.row r hr
theorem Rw.sub {R':List (Nat×Array Value×TypeId)} (h:Rw w0 R W) (hs:∀r∈R',r∈R):Rw w0 R' W:=⟨h.bel,fun r hr=>h.row r (hs r hr)⟩
theorem Rw.put {b:Nat} {cs cs':Array Value} {t:TypeId} (h:Rw w0 ((b,cs,t)::R) W) (hP:nE W b cs' t W') (hne:∀r∈R,r.1≠b):Rw w0 ((b,cs',t)::R) W':=by
 have h0:=h.row _ mQ
 refine⟨hP.below _ _ h.bel h0.1,fun r hr=>?_⟩
 rcases List.mem_cons.1 hr with rfl|hr
 ·exact⟨h0.1,by rw[hP.size];exact h0.2.1,hP.here⟩
 ·have h1:=h.row r (mC _ hr)
  exact⟨h1.1,by rw[hP.size];exact h1.2.1,(hP.far _ (hne r hr)).trans h1.2.2⟩
theorem Rw.newRow {cs cs':Array Value} {t:TypeId} (h:Rw w0 R W) (hP:nE (W.alloc (.cells cs t)) W.heap.size cs' t W'):Rw w0 ((W.heap.size,cs',t)::R) W':=
 (h.alloc cs t).put hP (fun r hr=>Nat.ne_of_lt (h.row r hr).2.1)
section
variable {P:Program} {ops:Array Oper} {Q:Exit→Act→World→Prop} {md:Region.Mode} {S1:World→Prop} {W:World} {n0:Nat}
def oA (S1:World→Prop) (W:World) (n0:Nat) (listed:Array Bool) (w:World):Prop:=S1 w∧(listed.getD n0 false=false→w=W)
def rO (P:Program) (md:Region.Mode) (ops:Array Oper) (Q:Exit→Act→World→Prop) (S1:World→Prop) (W:World) (n0:Nat):Nat→Array Bool→Act→World→Prop
 | 0,listed,a,w=>Region.ready md ops listed=[]∧Q .normal a w
 | fuel+1,listed,a,w=>
   (Region.ready md ops listed=[]→Q .normal a w)∧
   ∀i∈Region.ready md ops listed,wpOp P ops Q i (fun a' w'=>oA S1 W n0 (listed.setIfInBounds i true) w'∧rO P md ops Q S1 W n0 fuel (listed.setIfInBounds i true) a' w') a w
theorem yZ:∀(fuel:Nat) (listed:Array Bool) (a:Act) (w:World),rO P md ops Q S1 W n0 fuel listed a w→wpAny P md ops Q fuel listed a w
 | 0,_,_,_,h=>h
 | fuel+1,_,_,_,h=>⟨h.1,fun i hi=>wpOp_mono (fun a' w' h'=>yZ fuel _ a' w' h'.2) (h.2 i hi)⟩
theorem fN {listed:Array Bool} {i:Nat} {w:World} (hi:i≠n0):oA S1 W n0 (listed.setIfInBounds i true) w↔oA S1 W n0 listed w:=by
 unfold oA
 rw[getD_set_ne false hi]
theorem FH {i:Nat} {oi:Oper} {v:Value} (hi:ops[i]? =some oi) (hin:i≠n0) (hsel:∀(j:Nat) (o:Oper) cs b,ops[j]? =some o→o.op≠ .select cs b)
 (hQ:∀c a w,Q (.panic c) (a.put oi.dst v) w→Q (.panic c) a w):
 ∀(fuel:Nat) (listed:Array Bool) (a:Act) (w:World),
  (∀j oj,ops[j]? =some oj→j≠i→listed.getD j true=false→(∀e∈oj.after,Region.binds md e=true→e.on≠i)→oi.apart ops oj=true)→
  i∈Region.ready md ops listed→YieldsIf P ops S1 oi v a→oA S1 W n0 listed w→
  rO P md ops Q S1 W n0 fuel (listed.setIfInBounds i true) (a.put oi.dst v) w→rO P md ops Q S1 W n0 (fuel+1) listed a w:=by
 intro fuel
 induction fuel with
 | zero=>
   intro listed a w _ hr hy hS H
   refine⟨fun h=>(by rw[h]at hr;cases hr),fun j hj=>?_⟩
   by_cases hji:j=i
   ·subst hji;exact hy.wpOp hi hS.1 ⟨(fN hin).2 hS,H⟩
   ·have:=ready_mono hj hji
    rw[H.1]at this
    cases this
 | succ fuel ih=>
   intro listed a w hfree hr hy hS H
   refine⟨fun h=>(by rw[h]at hr;cases hr),fun j hj=>?_⟩
   by_cases hji:j=i
   ·subst hji;exact hy.wpOp hi hS.1 ⟨(fN hin).2 hS,H⟩
   ·have h1:=H.2 j (ready_mono hj hji)
    obtain⟨hjun,oj,hoj,hall⟩:=mem_ready.1 hj
    have hnot:∀e∈oj.after,Region.binds md e=true→e.on≠i:=fun e he hb heq=>by
     have h1:=hall e he hb
     have h0:=(mem_ready.1 hr).1
     rw[heq,getD_both h0]at h1
     cases h1
    have h2:=wpOp_putIf hoj (hfree j oj hoj hji hjun hnot) (fun cs b=>hsel i oi cs b hi) (fun cs b=>hsel j oj cs b hoj) hQ hy h1
    have hfree':∀k ok,ops[k]? =some ok→k≠i→(listed.setIfInBounds j true).getD k true=false→
     (∀e∈ok.after,Region.binds md e=true→e.on≠i)→oi.apart ops ok=true:=fun k ok hk hki hun hno=>by
     refine hfree k ok hk hki ?_ hno
     by_cases hjk:j=k
     ·subst hjk;exact hjun
     ·rw[getD_set_ne true hjk]at hun;exact hun
    refine wpOp_mono (fun a' w' h3=>?_) h2
    have h4:=h3.2.1
    rw[Array.setIfInBounds_comm _ _ (Ne.symm hji)]at h4
    have h5:=(fN hin).1 h4
    refine⟨h5,ih (listed.setIfInBounds j true) a' w' hfree' (ready_mono hr (Ne.symm hji)) h3.1 h5 ?_⟩
    rw[Array.setIfInBounds_comm _ _ hji]
    exact h3.2.2
def JG (md:Region.Mode) (ops:Array Oper):Nat→List Nat→Bool
 | _,[]=>true
 | i,k::ks=>Region.waitsFor md ops k i&&JG md ops k ks
theorem DF {md:Region.Mode} {ops:Array Oper}:∀(path:List Nat) (i:Nat),JG md ops i path=true→∀k∈path,∃p,(p=i∨p∈path)∧Region.waitsFor md ops k p=true
 | [],_,_,k,hk=>by cases hk
 | j::ks,i,h,k,hk=>by
   simp only[JG,Bool.and_eq_true]at h
   rcases List.mem_cons.1 hk with rfl|hk
   ·exact⟨i,.inl rfl,h.1⟩
   ·obtain⟨p,hp,hw⟩:=DF ks j h.2 k hk
    exact⟨p,.inr (by rcases hp with rfl|hp<;>simp[*]),hw⟩
def qP (md:Region.Mode) (ops:Array Oper) (n0:Nat):Nat→Nat→List Nat
 | 0,_=>[]
 | f+1,i=>if Region.waitsFor md ops n0 i then[n0]else
    match(List.range ops.size).find? (fun j=>decide (i<j)&&Region.waitsFor md ops j i)with
    | some j=>j::qP md ops n0 f j
    | none=>[]
theorem CK {i:Nat} {oi:Oper} {v:Value} (hi:ops[i]? =some oi) (hin:i≠n0) (path:List Nat) (hpath:JG md ops i path=true) (hn0:n0∈path) (hsel:∀(j:Nat) (o:Oper) cs b,ops[j]? =some o→o.op≠ .select cs b)
 (hQ:∀c a w,Q (.panic c) (a.put oi.dst v) w→Q (.panic c) a w):
 ∀(fuel:Nat) (listed:Array Bool) (a:Act) (w:World),
  (∀j oj,ops[j]? =some oj→j≠i→listed.getD j true=false→(∀e∈oj.after,Region.binds md e=true→e.on≠i)→oi.apart ops oj=true)→
  i∈Region.ready md ops listed→YieldsIf P ops (fun w'=>w'=W) oi v a→oA S1 W n0 listed w→(∀k∈path,listed.getD k false=false)→
  rO P md ops Q S1 W n0 fuel (listed.setIfInBounds i true) (a.put oi.dst v) w→rO P md ops Q S1 W n0 (fuel+1) listed a w:=by
 intro fuel
 induction fuel with
 | zero=>
   intro listed a w _ hr hy hS hun0 H
   refine⟨fun h=>(by rw[h]at hr;cases hr),fun j hj=>?_⟩
   by_cases hji:j=i
   ·subst hji;exact hy.wpOp hi (hS.2 (hun0 _ hn0)) ⟨(fN hin).2 hS,H⟩
   ·have:=ready_mono hj hji
    rw[H.1]at this
    cases this
 | succ fuel ih=>
   intro listed a w hfree hr hy hS hun0 H
   refine⟨fun h=>(by rw[h]at hr;cases hr),fun j hj=>?_⟩
   by_cases hji:j=i
   ·subst hji;exact hy.wpOp hi (hS.2 (hun0 _ hn0)) ⟨(fN hin).2 hS,H⟩
   ·have h1:=H.2 j (ready_mono hj hji)
    obtain⟨hjun,oj,hoj,hall⟩:=mem_ready.1 hj
    have hiun:=(mem_ready.1 hr).1
    have hnot:∀e∈oj.after,Region.binds md e=true→e.on≠i:=fun e he hb heq=>by
     have h1:=hall e he hb
     rw[heq,getD_both hiun]at h1
     cases h1
    have hjn:∀k∈path,j≠k:=by
     intro k hk hjk
     subst hjk
     obtain⟨p,hp,hw⟩:=DF path i hpath j hk
     obtain⟨o',ho',e,he,hb,hon⟩:=Region.waitsFor_spec hw
     have:o'=oj:=Option.some.inj (ho'.symm.trans hoj)
     subst this
     rcases hp with rfl|hp
     ·exact hnot e he hb hon
     ·have h3:=hall e he hb
      rw[hon,hun0 p hp]at h3
      cases h3
    have h2:=wpOp_putIf hoj (hfree j oj hoj hji hjun hnot) (fun cs b=>hsel i oi cs b hi) (fun cs b=>hsel j oj cs b hoj) hQ hy h1
    have hfree':∀k ok,ops[k]? =some ok→k≠i→(listed.setIfInBounds j true).getD k true=false→
     (∀e∈ok.after,Region.binds md e=true→e.on≠i)→oi.apart ops ok=true:=fun k ok hk hki hun hno=>by
     refine hfree k ok hk hki ?_ hno
     by_cases hjk:j=k
     ·subst hjk;exact hjun
     ·rw[getD_set_ne true hjk]at hun;exact hun
    refine wpOp_mono (fun a' w' h3=>?_) h2
    have h4:=h3.2.1
    rw[Array.setIfInBounds_comm _ _ (Ne.symm hji)]at h4
    have h5:=(fN hin).1 h4
    refine⟨h5,ih (listed.setIfInBounds j true) a' w' hfree' (ready_mono hr (Ne.symm hji)) h3.1 h5 (fun k hk=>by rw[getD_set_ne false (hjn k hk)];exact hun0 k hk) ?_⟩
    rw[Array.setIfInBounds_comm _ _ hji]
    exact h3.2.2
def BK:Op→Bool
 | .move _| .assign _| .load .. | .indexAddr .. | .extract .. | .binOp .. | .unOp .. | .convert .. | .slice .. | .fieldAddr .. | .field .. | .index .. | .sliceToArrayPointer .. | .build .. =>true
 | _=>false
theorem wL {o:Oper} (h:BK o.op=true) {ρ:Operand→Value} {w w':World} {n:Next} (hr:(execOp ρ o).run P w=.ok n w'):∃v,n=.value v:=by
 unfold execOp at hr
 unfold BK at h
 split at h
 case h_15=>cases h
 all_goals
  rename_i hop
  simp only[hop]at hr
  first
   | (rw[Sem.run_pure]at hr;cases hr;exact⟨_,rfl⟩)
   | (rw[Sem.run_bind]at hr
      generalize Sem.run P _ w=r at hr
      cases r with
      | ok u w''=>simp only[Result.andThen_ok,Sem.run_pure]at hr;cases hr;exact⟨_,rfl⟩
      | halt x w''=>simp only[Result.andThen]at hr;cases hr)
def dX (K:Act→World→Prop) (Q:Exit→Act→World→Prop):Exit→Act→World→Prop
 | .normal,a,w=>K a w
 | e,a,w=>Q e a w
theorem dR {k:Nat} {o:Oper} {K:Act→World→Prop} {a:Act} {w:World} (ho:ops[k]? =some o) (h:wpList P ops (dX K Q) [o] a w):wpOp P ops Q k K a w:=by
 unfold wpOp
 simp only[ho]
 unfold wpList at h
 split
 ·rename_i hw
  simp only[hw,if_true]at h
  rcases h with h|⟨h1,h2⟩
  ·refine .inl ?_
   unfold Oper.wp at*
   generalize(execOp a.eval o).run P w=r at*
   cases r with
   | ok n w'=>
     cases n<;>simp only[Oper.upon]at h⊢
     case value u=>exact h
     case skip=>exact h
     case defer d=>exact h
     case enter f args=>
      refine Calls.mono h fun e w'' he=>?_
      cases e with
      | returned u=>exact he
      | panicked c=>exact he
      | outgrown=>exact he
     case row row args=>exact Rows.mono h fun u w'' he=>he
   | halt x w'=>
     cases x<;>simp only[Oper.upon]at h⊢
     case panic u=>exact h
  ·exact .inr ⟨h1,h2⟩
 ·rename_i hw
  simp only[hw]at h
  exact h
inductive Tag
 | held|exact|only|tail
def bP (ops:Array Oper) (ks:List Nat):List Oper:=ks.filterMap (ops[·]?)
def iX (P:Program) (ops:Array Oper) (Q:Exit→Act→World→Prop) (S1:World→Prop) (W:World):List (Tag×List Nat)→Act→World→Prop
 | [],a,w=>Q .normal a w
 | (.held,ks)::r,a,w=>wpQuiet P ops S1 (fun a'=>iX P ops Q S1 W r a' w) (bP ops ks) a
 | (.exact,ks)::r,a,w=>wpQuiet P ops (fun w'=>w'=W) (fun a'=>iX P ops Q S1 W r a' w) (bP ops ks) a
 | (.only,ks)::r,a,w=>wpList P ops (dX (fun a' w'=>w'=W∧iX P ops Q S1 W r a' w') Q) (bP ops ks) a w
 | (.tail,ks)::r,a,w=>wpList P ops (dX (fun a' w'=>S1 w'∧iX P ops Q S1 W r a' w') Q) (bP ops ks) a w
def GJ (ops:Array Oper) (k:Nat):Bool:=match ops[k]? with|some o=>BK o.op|none=>false
def BX (md:Region.Mode) (ops:Array Oper) (n0:Nat) (ex:Bool):List Nat→Array Bool→Bool
 | [],_=>true
 | k::ks,listed=>(Region.ready md ops listed).contains k&&Region.free md ops listed k&&GJ ops k&&(k !=n0)&&(!ex||(JG md ops k (qP md ops n0 ops.size k)&&(qP md ops n0 ops.size k).contains n0&&(qP md ops n0 ops.size k).all (fun j=> !(listed.getD j false))))&&BX md ops n0 ex ks (listed.setIfInBounds k true)
def vC:List Nat→Array Bool→Array Bool
 | [],listed=>listed
 | k::ks,listed=>vC ks (listed.setIfInBounds k true)
def wQ (md:Region.Mode) (ops:Array Oper) (n0:Nat):List (Tag×List Nat)→Array Bool→Bool
 | [],listed=>(Region.ready md ops listed).isEmpty
 | (.held,ks)::r,listed=>BX md ops n0 false ks listed&&wQ md ops n0 r (vC ks listed)
 | (.exact,ks)::r,listed=>BX md ops n0 true ks listed&&wQ md ops n0 r (vC ks listed)
 | (.only,[k])::r,listed=>decide (Region.ready md ops listed=[k])&&(k !=n0)&& !(listed.getD n0 false)&&wQ md ops n0 r (listed.setIfInBounds k true)
 | (.tail,[k])::r,listed=>decide (Region.ready md ops listed=[k])&&(k==n0||listed.getD n0 false)&&wQ md ops n0 r (listed.setIfInBounds k true)
 | _,_=>false
def qH:List (Tag×List Nat)→Nat
 | []=>0
 | (_,ks)::r=>ks.length+qH r
theorem zX (hs:Region.noSelect ops=true) (hQ:∀c a d v w,Q (.panic c) (a.put d v) w→Q (.panic c) a w) (n:Nat):∀(ks:List Nat) (listed:Array Bool) (a:Act) (w:World),BX md ops n0 false ks listed=true→oA S1 W n0 listed w→
 wpQuiet P ops S1 (fun a'=>rO P md ops Q S1 W n0 n (vC ks listed) a' w) (bP ops ks) a→rO P md ops Q S1 W n0 (ks.length+n) listed a w
 | [],listed,a,w,_,_,h=>by rw[List.length_nil,Nat.zero_add];exact h
 | k::ks,listed,a,w,hB,hS,h=>by
   simp only[BX,Bool.and_eq_true,bne_iff_ne,ne_eq]at hB
   obtain⟨⟨⟨⟨⟨hr,hf⟩,hp⟩,hk⟩,_⟩,hB'⟩:=hB
   unfold GJ at hp
   split at hp
   ·rename_i o ho
    have hops:bP ops (k::ks)=o::bP ops ks:=by simp[bP,ho]
    rw[hops]at h
    unfold wpQuiet at h
    rw[show(k::ks).length+n=(ks.length+n)+1 by simp;omega]
    by_cases hw:Region.wanted o (yielded ops a.tmps)=true
    ·simp only[hw,if_true]at h
     obtain⟨v,h1,h2⟩:=h
     refine FH ho hk (Region.noSelect_spec hs) (fun c a w=>hQ c a _ _ w) _ listed a w (Region.free_spec ho hf) (by simpa using hr) (.inl ⟨hw,fun w' hw'=>?_⟩) hS (zX hs hQ n ks _ _ w hB' ((fN hk).2 hS) h2)
     have h3:=h1 w' hw'
     unfold Oper.quietAt at h3
     generalize hrun:(execOp a.eval o).run P w'=r at h3
     cases r with
     | ok m w''=>
       obtain⟨u,rfl⟩:=wL hp hrun
       simp only[Oper.quietUpon]at h3
       rw[h3.1,h3.2]
     | halt x w''=>simp only[Oper.quietUpon]at h3
    ·simp only[hw]at h
     exact FH ho hk (Region.noSelect_spec hs) (fun c a w=>hQ c a _ _ w) _ listed a w (Region.free_spec ho hf) (by simpa using hr) (.inr ⟨by simpa using hw,rfl⟩) hS (zX hs hQ n ks _ _ w hB' ((fN hk).2 hS) h)
   ·cases hp
theorem xB (hs:Region.noSelect ops=true) (hQ:∀c a d v w,Q (.panic c) (a.put d v) w→Q (.panic c) a w) (n:Nat):∀(ks:List Nat) (listed:Array Bool) (a:Act) (w:World),BX md ops n0 true ks listed=true→oA S1 W n0 listed w→
 wpQuiet P ops (fun w'=>w'=W) (fun a'=>rO P md ops Q S1 W n0 n (vC ks listed) a' w) (bP ops ks) a→rO P md ops Q S1 W n0 (ks.length+n) listed a w
 | [],listed,a,w,_,_,h=>by rw[List.length_nil,Nat.zero_add];exact h
 | k::ks,listed,a,w,hB,hS,h=>by
   simp only[BX,Bool.and_eq_true,bne_iff_ne,ne_eq,Bool.not_true,Bool.false_or,List.contains_eq_mem,decide_eq_true_eq,List.all_eq_true,Bool.not_eq_true']at hB
   obtain⟨⟨⟨⟨⟨hr,hf⟩,hp⟩,hk⟩,⟨hw0,hn0⟩,hun⟩,hB'⟩:=hB
   unfold GJ at hp
   split at hp
   ·rename_i o ho
    have hops:bP ops (k::ks)=o::bP ops ks:=by simp[bP,ho]
    rw[hops]at h
    unfold wpQuiet at h
    rw[show(k::ks).length+n=(ks.length+n)+1 by simp;omega]
    by_cases hw:Region.wanted o (yielded ops a.tmps)=true
    ·simp only[hw,if_true]at h
     obtain⟨v,h1,h2⟩:=h
     refine CK ho hk _ hw0 hn0 (Region.noSelect_spec hs) (fun c a w=>hQ c a _ _ w) _ listed a w (Region.free_spec ho hf) (by simpa using hr) (.inl ⟨hw,fun w' hw'=>?_⟩) hS hun (xB hs hQ n ks _ _ w hB' ((fN hk).2 hS) h2)
     have h3:=h1 w' hw'
     unfold Oper.quietAt at h3
     generalize hrun:(execOp a.eval o).run P w'=r at h3
     cases r with
     | ok m w''=>
       obtain⟨u,rfl⟩:=wL hp hrun
       simp only[Oper.quietUpon]at h3
       rw[h3.1,h3.2]
     | halt x w''=>simp only[Oper.quietUpon]at h3
    ·simp only[hw]at h
     exact CK ho hk _ hw0 hn0 (Region.noSelect_spec hs) (fun c a w=>hQ c a _ _ w) _ listed a w (Region.free_spec ho hf) (by simpa using hr) (.inr ⟨by simpa using hw,rfl⟩) hS hun (xB hs hQ n ks _ _ w hB' ((fN hk).2 hS) h)
   ·cases hp
theorem lO {C:World→Prop} {R R':Act→Prop} (h:∀a,R a→R' a):∀(l:List Oper) (a:Act),wpQuiet P ops C R l a→wpQuiet P ops C R' l a
 | [],a,hh=>h a hh
 | o::l,a,hh=>by
   unfold wpQuiet at*
   split
   ·rename_i hw
    simp only[hw,if_true]at hh
    exact Oper.quiet_mono (fun a' h'=>lO h l a' h') hh
   ·rename_i hw
    simp only[hw]at hh
    exact lO h l _ hh
theorem wT {ex:Bool} {w:World}:∀(ks:List Nat) (listed:Array Bool),BX md ops n0 ex ks listed=true→oA S1 W n0 listed w→oA S1 W n0 (vC ks listed) w
 | [],_,_,h=>h
 | k::ks,listed,hB,h=>by
   simp only[BX,Bool.and_eq_true,bne_iff_ne,ne_eq]at hB
   exact wT ks _ hB.2 ((fN hB.1.1.2).2 h)
theorem rH (hs:Region.noSelect ops=true) (hQ:∀c a d v w,Q (.panic c) (a.put d v) w→Q (.panic c) a w):∀(runs:List (Tag×List Nat)) (listed:Array Bool) (a:Act) (w:World),wQ md ops n0 runs listed=true→oA S1 W n0 listed w→
 iX P ops Q S1 W runs a w→rO P md ops Q S1 W n0 (qH runs) listed a w
 | [],listed,a,w,hB,_,h=>by
   simp only[wQ,List.isEmpty_iff]at hB
   exact⟨hB,h⟩
 | (.held,ks)::r,listed,a,w,hB,hS,h=>by
   simp only[wQ,Bool.and_eq_true]at hB
   refine zX hs hQ _ ks listed a w hB.1 hS (lO (fun a' h'=>?_) _ _ h)
   refine rH hs hQ r _ a' w hB.2 ?_ h'
   exact wT ks listed hB.1 hS
 | (.exact,ks)::r,listed,a,w,hB,hS,h=>by
   simp only[wQ,Bool.and_eq_true]at hB
   refine xB hs hQ _ ks listed a w hB.1 hS (lO (fun a' h'=>?_) _ _ h)
   refine rH hs hQ r _ a' w hB.2 ?_ h'
   exact wT ks listed hB.1 hS
 | (.only,[k])::r,listed,a,w,hB,hS,h=>by
   simp only[wQ,Bool.and_eq_true,decide_eq_true_eq,bne_iff_ne,ne_eq,Bool.not_eq_true']at hB
   obtain⟨⟨⟨hr,hk⟩,hun⟩,hB'⟩:=hB
   rw[show qH ((Tag.only,[k])::r)=qH r+1 by simp[qH];omega]
   refine⟨fun h0=>(by rw[hr]at h0;cases h0),fun i hi=>?_⟩
   rw[hr]at hi
   obtain rfl:i=k:=by simpa using hi
   obtain⟨_,o,ho,_⟩:=mem_ready.1 (show i∈Region.ready md ops listed by rw[hr];simp)
   have hops:bP ops [i]=[o]:=by simp[bP,ho]
   simp only[iX,hops]at h
   refine wpOp_mono (fun a' w' h'=>?_) (dR ho h)
   have hl:oA S1 W n0 (listed.setIfInBounds i true) w':=by
    refine(fN hk).2 ⟨?_,fun _=>h'.1⟩
    rw[h'.1,←hS.2 hun]
    exact hS.1
   exact⟨hl,rH hs hQ r _ a' w' hB' hl h'.2⟩
 | (.tail,[k])::r,listed,a,w,hB,hS,h=>by
   simp only[wQ,Bool.and_eq_true,decide_eq_true_eq,Bool.or_eq_true,beq_iff_eq]at hB
   obtain⟨⟨hr,hk⟩,hB'⟩:=hB
   rw[show qH ((Tag.tail,[k])::r)=qH r+1 by simp[qH];omega]
   refine⟨fun h0=>(by rw[hr]at h0;cases h0),fun i hi=>?_⟩
   rw[hr]at hi
   obtain rfl:i=k:=by simpa using hi
   obtain⟨hiun,o,ho,_⟩:=mem_ready.1 (show i∈Region.ready md ops listed by rw[hr];simp)
   have hops:bP ops [i]=[o]:=by simp[bP,ho]
   simp only[iX,hops]at h
   refine wpOp_mono (fun a' w' h'=>?_) (dR ho h)
   have hl:oA S1 W n0 (listed.setIfInBounds i true) w':=by
    refine⟨h'.1,fun hx=>?_⟩
    exfalso
    rcases hk with hk|hk
    ·subst hk
     rcases Nat.lt_or_ge i listed.size with hlt|hge
     ·simp[hlt]at hx
     ·simp[Array.getElem?_eq_none hge]at hiun
    ·rw[getD_set_true hk]at hx
     cases hx
   exact⟨hl,rH hs hQ r _ a' w' hB' hl h'.2⟩
def zZ (Q:Exit→Act→World→Prop):Exit→Act→World→Prop
 | .panic _,_,_=>False
 | e,a,w=>Q e a w
theorem PT {Q:Exit→Act→World→Prop}:∀(e:Exit) (a:Act) (w:World),zZ Q e a w→Q e a w:=fun e a w h=>by
 cases e<;>first|exact h|exact(h:False).elim
theorem oN (ops:Array Oper):bP ops []=[]:=rfl
def tV:List Oper→Nat→List Oper
 | [],_=>[]
 | o::_,0=>[o]
 | _::l,k+1=>tV l k
theorem RA:∀(l:List Oper) (k:Nat),tV l k=(l[k]?).toList
 | [],k=>by simp[tV]
 | o::l,0=>by simp[tV]
 | o::l,k+1=>by simp[tV,RA l k]
theorem oC (l:List Oper) (k:Nat) (ks:List Nat):bP l.toArray (k::ks)=tV l k++bP l.toArray ks:=by
 rw[RA]
 simp only[bP,List.filterMap_cons,List.getElem?_toArray]
 cases l[k]? <;>rfl
theorem oZ (o:Oper) (l:List Oper):tV (o::l) 0=[o]:=rfl
theorem oU (o:Oper) (l:List Oper) (k:Nat):tV (o::l) (k+1)=tV l k:=rfl
theorem oS:(∀(l:List Oper) (k:Nat) (ks:List Nat),bP l.toArray (k::ks)=tV l k++bP l.toArray ks)∧(∀ops:Array Oper,bP ops []=[])∧(∀(o:Oper) (l:List Oper),tV (o::l) 0=[o])∧(∀(o:Oper) (l:List Oper) (k:Nat),tV (o::l) (k+1)=tV l k)∧(∀(o:Oper) (l m:List Oper),(o::l)++m=o::(l++m))∧∀l:List Oper,[]++l=l:=
 ⟨oC,oN,oZ,oU,fun _ _ _=>rfl,fun _=>rfl⟩
theorem pS:(∀(a:Act) (d:Tmp) (v:Value),a.put (some d) v={ a with tmps:=a.tmps.setIfInBounds d v })∧(∀(a:Act) (v:Value),a.put none v=a)∧(∀(l:List Value) (i:Nat) (v:Value),l.toArray.setIfInBounds i v=(l.set i v).toArray)∧(∀(x:Value) (l:List Value) (i:Nat) (v:Value),(x::l).set (i+1) v=x::l.set i v)∧∀(x:Value) (l:List Value) (v:Value),(x::l).set 0 v=v::l:=
 ⟨fun _ _ _=>rfl,fun _ _=>rfl,sU,fun _ _ _ _=>rfl,fun _ _ _=>rfl⟩
theorem dV {Q:Exit→Act→World→Prop} {a:Act} {w:World} (h:Q .normal a w):zZ Q .normal a w:=h
theorem wRl {id:Nat} {a:Act} {w:World} {l:List Oper} (n0:Nat) (S1:World→Prop) (runs:List (Tag×List Nat)) (hm:P.follows .mixedOrders=true)
 (hB:(Region.noSelect l.toArray&&decide (qH runs=l.toArray.size)&&wQ .any l.toArray n0 runs (Array.replicate l.toArray.size false))=true)
 (hS:S1 w.drew) (h:iX P l.toArray (zZ Q) S1 w.drew runs a w.drew):(Code.region id l.toArray true).wp P Q a w:=by
 simp only[Bool.and_eq_true,decide_eq_true_eq]at hB
 refine Code.wp_mono (Q:=zZ Q) PT ?_
 have h1:=rH (md:=.any) (n0:=n0) (Q:=zZ Q) hB.1.1 (fun _ _ _ _ _ h=>h) runs (Array.replicate l.toArray.size false) a w.drew hB.2 ⟨hS,fun _=>rfl⟩ h
 rw[hB.1.2]at h1
 exact wp_region_any hm (yZ _ _ _ _ h1)
end
section
variable {P:Program} {ops:Array Oper} {Q:Exit→Act→World→Prop} {md:Region.Mode} {S1:World→Prop} {W:World} {n0 z:Nat}
end
theorem oG {Q:Exit→Act→World→Prop} {a:Act} {w:World} (h:Q .normal a w):dX (fun a' w'=>zZ Q Exit.normal a' w') (zZ Q) Exit.normal a w:=h
section
variable {P:Program} {ops:Array Oper} {Q:Exit→Act→World→Prop} {md:Region.Mode} {S1:World→Prop} {z:Nat}
def oK (S1:World→Prop) (z:Nat) (listed:Array Bool) (w:World):Prop:=listed.getD z false=false→S1 w
def vE (P:Program) (md:Region.Mode) (ops:Array Oper) (Q:Exit→Act→World→Prop) (S1:World→Prop) (z:Nat):Nat→Array Bool→Act→World→Prop
 | 0,listed,a,w=>Region.ready md ops listed=[]∧Q .normal a w
 | fuel+1,listed,a,w=>
   (Region.ready md ops listed=[]→Q .normal a w)∧
   ∀i∈Region.ready md ops listed,wpOp P ops Q i (fun a' w'=>oK S1 z (listed.setIfInBounds i true) w'∧vE P md ops Q S1 z fuel (listed.setIfInBounds i true) a' w') a w
theorem xG:∀(fuel:Nat) (listed:Array Bool) (a:Act) (w:World),vE P md ops Q S1 z fuel listed a w→wpAny P md ops Q fuel listed a w
 | 0,_,_,_,h=>h
 | fuel+1,_,_,_,h=>⟨h.1,fun i hi=>wpOp_mono (fun a' w' h'=>xG fuel _ a' w' h'.2) (h.2 i hi)⟩
theorem mT {listed:Array Bool} {i:Nat} {w:World} (hz:i≠z):oK S1 z (listed.setIfInBounds i true) w↔oK S1 z listed w:=by
 unfold oK
 rw[getD_set_ne false hz]
theorem CH {i:Nat} {oi:Oper} {v:Value} (hi:ops[i]? =some oi) (hiz:i≠z) (path:List Nat) (hpath:JG md ops i path=true) (hn0:z∈path) (hsel:∀(j:Nat) (o:Oper) cs b,ops[j]? =some o→o.op≠ .select cs b)
 (hQ:∀c a w,Q (.panic c) (a.put oi.dst v) w→Q (.panic c) a w):
 ∀(fuel:Nat) (listed:Array Bool) (a:Act) (w:World),
  (∀j oj,ops[j]? =some oj→j≠i→listed.getD j true=false→(∀e∈oj.after,Region.binds md e=true→e.on≠i)→oi.apart ops oj=true)→
  i∈Region.ready md ops listed→YieldsIf P ops S1 oi v a→oK S1 z listed w→(∀k∈path,listed.getD k false=false)→
  vE P md ops Q S1 z fuel (listed.setIfInBounds i true) (a.put oi.dst v) w→vE P md ops Q S1 z (fuel+1) listed a w:=by
 intro fuel
 induction fuel with
 | zero=>
   intro listed a w _ hr hy hS hun0 H
   refine⟨fun h=>(by rw[h]at hr;cases hr),fun j hj=>?_⟩
   by_cases hji:j=i
   ·subst hji;exact hy.wpOp hi (hS (hun0 _ hn0)) ⟨(mT hiz).2 hS,H⟩
   ·have:=ready_mono hj hji
    rw[H.1]at this
    cases this
 | succ fuel ih=>
   intro listed a w hfree hr hy hS hun0 H
   refine⟨fun h=>(by rw[h]at hr;cases hr),fun j hj=>?_⟩
   by_cases hji:j=i
   ·subst hji;exact hy.wpOp hi (hS (hun0 _ hn0)) ⟨(mT hiz).2 hS,H⟩
   ·have h1:=H.2 j (ready_mono hj hji)
    obtain⟨hjun,oj,hoj,hall⟩:=mem_ready.1 hj
    have hiun:=(mem_ready.1 hr).1
    have hnot:∀e∈oj.after,Region.binds md e=true→e.on≠i:=fun e he hb heq=>by
     have h1:=hall e he hb
     rw[heq,getD_both hiun]at h1
     cases h1
    have hjn:∀k∈path,j≠k:=by
     intro k hk hjk
     subst hjk
     obtain⟨p,hp,hw⟩:=DF path i hpath j hk
     obtain⟨o',ho',e,he,hb,hon⟩:=Region.waitsFor_spec hw
     have:o'=oj:=Option.some.inj (ho'.symm.trans hoj)
     subst this
     rcases hp with rfl|hp
     ·exact hnot e he hb hon
     ·have h3:=hall e he hb
      rw[hon,hun0 p hp]at h3
      cases h3
    have h2:=wpOp_putIf hoj (hfree j oj hoj hji hjun hnot) (fun cs b=>hsel i oi cs b hi) (fun cs b=>hsel j oj cs b hoj) hQ hy h1
    have hfree':∀k ok,ops[k]? =some ok→k≠i→(listed.setIfInBounds j true).getD k true=false→
     (∀e∈ok.after,Region.binds md e=true→e.on≠i)→oi.apart ops ok=true:=fun k ok hk hki hun hno=>by
     refine hfree k ok hk hki ?_ hno
     by_cases hjk:j=k
     ·subst hjk;exact hjun
     ·rw[getD_set_ne true hjk]at hun;exact hun
    refine wpOp_mono (fun a' w' h3=>?_) h2
    have h4:=h3.2.1
    rw[Array.setIfInBounds_comm _ _ (Ne.symm hji)]at h4
    have h5:=(mT hiz).1 h4
    refine⟨h5,ih (listed.setIfInBounds j true) a' w' hfree' (ready_mono hr (Ne.symm hji)) h3.1 h5 (fun k hk=>by rw[getD_set_ne false (hjn k hk)];exact hun0 k hk) ?_⟩
    rw[Array.setIfInBounds_comm _ _ hji]
    exact h3.2.2
inductive Tr
 | done
 | held (ks:List Nat) (r:Tr)
 | tail (k:Nat) (r:Tr)
 | last (k:Nat) (r:Tr)
 | fork (k1:Nat) (r1:Tr) (k2:Nat) (r2:Tr)
 | fork3 (k1:Nat) (r1:Tr) (k2:Nat) (r2:Tr) (k3:Nat) (r3:Tr)
def bR (P:Program) (ops:Array Oper) (Q:Exit→Act→World→Prop) (S1:World→Prop):Tr→Act→World→Prop
 | .done,a,w=>Q .normal a w
 | .held ks r,a,w=>wpQuiet P ops S1 (fun a'=>bR P ops Q S1 r a' w) (bP ops ks) a
 | .tail k r,a,w=>wpList P ops (dX (fun a' w'=>S1 w'∧bR P ops Q S1 r a' w') Q) (bP ops [k]) a w
 | .last k r,a,w=>wpList P ops (dX (fun a' w'=>bR P ops Q S1 r a' w') Q) (bP ops [k]) a w
 | .fork k1 r1 k2 r2,a,w=>wpList P ops (dX (fun a' w'=>S1 w'∧bR P ops Q S1 r1 a' w') Q) (bP ops [k1]) a w∧wpList P ops (dX (fun a' w'=>S1 w'∧bR P ops Q S1 r2 a' w') Q) (bP ops [k2]) a w
 | .fork3 k1 r1 k2 r2 k3 r3,a,w=>wpList P ops (dX (fun a' w'=>S1 w'∧bR P ops Q S1 r1 a' w') Q) (bP ops [k1]) a w∧wpList P ops (dX (fun a' w'=>S1 w'∧bR P ops Q S1 r2 a' w') Q) (bP ops [k2]) a w∧wpList P ops (dX (fun a' w'=>S1 w'∧bR P ops Q S1 r3 a' w') Q) (bP ops [k3]) a w
theorem aaN {o:Oper} {x:Operand} (ho:o.op=.nilCheck x) {ρ:Operand→Value} {w w':World} {n:Next} (hr:(execOp ρ o).run P w=.ok n w'):∃v,n=.value v:=by
 unfold execOp at hr
 simp only[ho]at hr
 have hp:∀{n:Next},(runtimePanic .nilDeref:Sem Next).run P w=.ok n w'→∃v,n=.value v:=by
  intro n h
  cases h
 split at hr
 ·exact hp hr
 ·exact hp hr
 ·exact hp hr
 ·split at hr
  ·exact hp hr
  ·simp only[Sem.run_bind]at hr
   generalize Sem.run P program w=r at hr
   cases r with
   | ok u w''=>
     simp only[Result.andThen_ok]at hr
     generalize Sem.run P (nilAhead _ _ _ _) w''=r at hr
     cases r with
     | ok u2 w3=>
       simp only[Result.andThen_ok]at hr
       split at hr
       ·cases hr
       ·cases hr;exact⟨_,rfl⟩
     | halt x w3=>cases hr
   | halt x w''=>cases hr
  ·cases hr;exact⟨_,rfl⟩
 ·cases hr;exact⟨_,rfl⟩
def RJ (ops:Array Oper) (k:Nat):Bool:=match ops[k]? with|some o=>BK o.op||(match o.op with| .nilCheck _=>true|_=>false)|none=>false
theorem OR {o:Oper} (h:(BK o.op||(match o.op with| .nilCheck _=>true|_=>false))=true) {ρ:Operand→Value} {w w':World} {n:Next} (hr:(execOp ρ o).run P w=.ok n w'):∃v,n=.value v:=by
 rcases Bool.or_eq_true_iff.1 h with h|h
 ·exact wL h hr
 ·split at h
  ·rename_i ho
   exact aaN ho hr
  ·cases h
def DS (md:Region.Mode) (ops:Array Oper) (z:Nat):List Nat→Array Bool→Bool
 | [],_=>true
 | k::ks,listed=>(Region.ready md ops listed).contains k&&Region.free md ops listed k&&RJ ops k&&(k !=z)&&(JG md ops k (qP md ops z ops.size k)&&(qP md ops z ops.size k).contains z&&(qP md ops z ops.size k).all (fun j=> !(listed.getD j false)))&&DS md ops z ks (listed.setIfInBounds k true)
def uE:Tr→Nat
 | .done=>0
 | .held ks r=>ks.length+uE r
 | .tail _ r=>uE r+1
 | .last _ r=>uE r+1
 | .fork _ r1 _ r2=>uE r1+1
 | .fork3 _ r1 _ r2 _ r3=>uE r1+1
def SZ (md:Region.Mode) (ops:Array Oper) (z:Nat):Tr→Array Bool→Bool
 | .done,listed=>(Region.ready md ops listed).isEmpty
 | .held ks r,listed=>DS md ops z ks listed&&SZ md ops z r (vC ks listed)
 | .tail k r,listed=>decide (Region.ready md ops listed=[k])&&SZ md ops z r (listed.setIfInBounds k true)
 | .last k r,listed=>decide (Region.ready md ops listed=[k])&&(k==z||listed.getD z false)&&SZ md ops z r (listed.setIfInBounds k true)
 | .fork k1 r1 k2 r2,listed=>decide (Region.ready md ops listed=[k1,k2])&&decide (uE r1=uE r2)&&SZ md ops z r1 (listed.setIfInBounds k1 true)&&SZ md ops z r2 (listed.setIfInBounds k2 true)
 | .fork3 k1 r1 k2 r2 k3 r3,listed=>decide (Region.ready md ops listed=[k1,k2,k3])&&decide (uE r1=uE r2)&&decide (uE r1=uE r3)&&SZ md ops z r1 (listed.setIfInBounds k1 true)&&SZ md ops z r2 (listed.setIfInBounds k2 true)&&SZ md ops z r3 (listed.setIfInBounds k3 true)
theorem xC (hs:Region.noSelect ops=true) (hQ:∀c a d v w,Q (.panic c) (a.put d v) w→Q (.panic c) a w) (n:Nat):∀(ks:List Nat) (listed:Array Bool) (a:Act) (w:World),DS md ops z ks listed=true→oK S1 z listed w→
 wpQuiet P ops S1 (fun a'=>vE P md ops Q S1 z n (vC ks listed) a' w) (bP ops ks) a→vE P md ops Q S1 z (ks.length+n) listed a w
 | [],listed,a,w,_,_,h=>by rw[List.length_nil,Nat.zero_add];exact h
 | k::ks,listed,a,w,hB,hS,h=>by
   simp only[DS,Bool.and_eq_true,bne_iff_ne,ne_eq,List.contains_eq_mem,decide_eq_true_eq,List.all_eq_true,Bool.not_eq_true']at hB
   obtain⟨⟨⟨⟨⟨hr,hf⟩,hp⟩,hkz⟩,⟨hw0,hn0⟩,hun⟩,hB'⟩:=hB
   unfold RJ at hp
   split at hp
   ·rename_i o ho
    have hops:bP ops (k::ks)=o::bP ops ks:=by simp[bP,ho]
    rw[hops]at h
    unfold wpQuiet at h
    rw[show(k::ks).length+n=(ks.length+n)+1 by simp;omega]
    by_cases hw:Region.wanted o (yielded ops a.tmps)=true
    ·simp only[hw,if_true]at h
     obtain⟨v,h1,h2⟩:=h
     refine CH ho hkz _ hw0 hn0 (Region.noSelect_spec hs) (fun c a w=>hQ c a _ _ w) _ listed a w (Region.free_spec ho hf) (by simpa using hr) (.inl ⟨hw,fun w' hw'=>?_⟩) hS hun (xC hs hQ n ks _ _ w hB' ((mT hkz).2 hS) h2)
     have h3:=h1 w' hw'
     unfold Oper.quietAt at h3
     generalize hrun:(execOp a.eval o).run P w'=r at h3
     cases r with
     | ok m w''=>
       obtain⟨u,rfl⟩:=OR hp hrun
       simp only[Oper.quietUpon]at h3
       rw[h3.1,h3.2]
     | halt x w''=>simp only[Oper.quietUpon]at h3
    ·simp only[hw]at h
     exact CH ho hkz _ hw0 hn0 (Region.noSelect_spec hs) (fun c a w=>hQ c a _ _ w) _ listed a w (Region.free_spec ho hf) (by simpa using hr) (.inr ⟨by simpa using hw,rfl⟩) hS hun (xC hs hQ n ks _ _ w hB' ((mT hkz).2 hS) h)
   ·cases hp
theorem BQ {w:World}:∀(ks:List Nat) (listed:Array Bool),DS md ops z ks listed=true→oK S1 z listed w→oK S1 z (vC ks listed) w
 | [],_,_,h=>h
 | k::ks,listed,hB,h=>by
   simp only[DS,Bool.and_eq_true,bne_iff_ne,ne_eq]at hB
   exact BQ ks _ hB.2 ((mT hB.1.1.2).2 h)
theorem rM {k:Nat} {listed:Array Bool} {a:Act} {w:World} {K:Act→World→Prop} (hr:k∈Region.ready md ops listed) (h:wpList P ops (dX K Q) (bP ops [k]) a w):wpOp P ops Q k K a w:=by
 obtain⟨_,o,ho,_⟩:=mem_ready.1 hr
 have hops:bP ops [k]=[o]:=by simp[bP,ho]
 rw[hops]at h
 exact dR ho h
theorem nR (hs:Region.noSelect ops=true) (hQ:∀c a d v w,Q (.panic c) (a.put d v) w→Q (.panic c) a w):∀(r:Tr) (listed:Array Bool) (a:Act) (w:World),SZ md ops z r listed=true→oK S1 z listed w→
 bR P ops Q S1 r a w→vE P md ops Q S1 z (uE r) listed a w
 | .done,listed,a,w,hB,_,h=>by
   simp only[SZ,List.isEmpty_iff]at hB
   exact⟨hB,h⟩
 | .held ks r,listed,a,w,hB,hS,h=>by
   simp only[SZ,Bool.and_eq_true]at hB
   refine xC hs hQ _ ks listed a w hB.1 hS (lO (fun a' h'=>?_) _ _ h)
   refine nR hs hQ r _ a' w hB.2 ?_ h'
   exact BQ ks listed hB.1 hS
 | .tail k r,listed,a,w,hB,hS,h=>by
   simp only[SZ,Bool.and_eq_true,decide_eq_true_eq]at hB
   obtain⟨hr,hB'⟩:=hB
   refine⟨fun h0=>(by rw[hr]at h0;cases h0),fun i hi=>?_⟩
   have hi0:=hi
   rw[hr]at hi
   obtain rfl:i=k:=by simpa using hi
   exact wpOp_mono (fun a' w' h'=>⟨fun _=>h'.1,nR hs hQ r _ a' w' hB' (fun _=>h'.1) h'.2⟩) (rM hi0 h)
 | .last k r,listed,a,w,hB,hS,h=>by
   simp only[SZ,Bool.and_eq_true,decide_eq_true_eq,Bool.or_eq_true,beq_iff_eq]at hB
   obtain⟨⟨hr,hkz⟩,hB'⟩:=hB
   refine⟨fun h0=>(by rw[hr]at h0;cases h0),fun i hi=>?_⟩
   have hi0:=hi
   rw[hr]at hi
   obtain rfl:i=k:=by simpa using hi
   have hiun:=(mem_ready.1 hi0).1
   have hl:∀w',oK S1 z (listed.setIfInBounds i true) w':=fun w' hx=>by
    exfalso
    rcases hkz with hk|hk
    ·subst hk
     rcases Nat.lt_or_ge i listed.size with hlt|hge
     ·simp[hlt]at hx
     ·simp[Array.getElem?_eq_none hge]at hiun
    ·rw[getD_set_true hk]at hx
     cases hx
   exact wpOp_mono (fun a' w' h'=>⟨hl w',nR hs hQ r _ a' w' hB' (hl w') h'⟩) (rM hi0 h)
 | .fork k1 r1 k2 r2,listed,a,w,hB,hS,h=>by
   simp only[SZ,Bool.and_eq_true,decide_eq_true_eq]at hB
   obtain⟨⟨⟨hr,hlen⟩,hB1⟩,hB2⟩:=hB
   refine⟨fun h0=>(by rw[hr]at h0;cases h0),fun i hi=>?_⟩
   have hi0:=hi
   rw[hr]at hi
   simp only[List.mem_cons,nY,or_false]at hi
   rcases hi with rfl|rfl
   ·exact wpOp_mono (fun a' w' h'=>⟨fun _=>h'.1,nR hs hQ r1 _ a' w' hB1 (fun _=>h'.1) h'.2⟩) (rM hi0 h.1)
   ·refine wpOp_mono (fun a' w' h'=>⟨fun _=>h'.1,?_⟩) (rM hi0 h.2)
    rw[hlen]
    exact nR hs hQ r2 _ a' w' hB2 (fun _=>h'.1) h'.2
 | .fork3 k1 r1 k2 r2 k3 r3,listed,a,w,hB,hS,h=>by
   simp only[SZ,Bool.and_eq_true,decide_eq_true_eq]at hB
   obtain⟨⟨⟨⟨⟨hr,hlen⟩,hlen3⟩,hB1⟩,hB2⟩,hB3⟩:=hB
   refine⟨fun h0=>(by rw[hr]at h0;cases h0),fun i hi=>?_⟩
   have hi0:=hi
   rw[hr]at hi
   simp only[List.mem_cons,nY,or_false]at hi
   rcases hi with rfl|rfl|rfl
   ·exact wpOp_mono (fun a' w' h'=>⟨fun _=>h'.1,nR hs hQ r1 _ a' w' hB1 (fun _=>h'.1) h'.2⟩) (rM hi0 h.1)
   ·refine wpOp_mono (fun a' w' h'=>⟨fun _=>h'.1,?_⟩) (rM hi0 h.2.1)
    rw[hlen]
    exact nR hs hQ r2 _ a' w' hB2 (fun _=>h'.1) h'.2
   ·refine wpOp_mono (fun a' w' h'=>⟨fun _=>h'.1,?_⟩) (rM hi0 h.2.2)
    rw[hlen3]
    exact nR hs hQ r3 _ a' w' hB3 (fun _=>h'.1) h'.2
theorem wRt {id:Nat} {a:Act} {w:World} {l:List Oper} (z:Nat) (S1:World→Prop) (r:Tr) (hm:P.follows .mixedOrders=true)
 (hB:(Region.noSelect l.toArray&&decide (uE r=l.toArray.size)&&SZ .any l.toArray z r (Array.replicate l.toArray.size false))=true)
 (hS:S1 w.drew) (h:bR P l.toArray (zZ Q) S1 r a w.drew):(Code.region id l.toArray true).wp P Q a w:=by
 simp only[Bool.and_eq_true,decide_eq_true_eq]at hB
 refine Code.wp_mono (Q:=zZ Q) PT ?_
 have h1:=nR (md:=.any) (z:=z) (Q:=zZ Q) hB.1.1 (fun _ _ _ _ _ h=>h) r (Array.replicate l.toArray.size false) a w.drew hB.2 (fun _=>hS) h
 rw[hB.1.2]at h1
 exact wp_region_any hm (xG _ _ _ _ h1)
end
end Go.Proofs.YtmjccemdldidaaaGreatDoor
