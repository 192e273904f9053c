import Derived.WalkKit
import Derived.ProofKit
import Derived.WalkLawsBesides
import Derived.Deep.QuietTactic
import Derived.BigQuiet
import Derived.Laws.Rows
import Derived.StillTail
import Derived.Laws.BitsLemmas
import Derived.Laws.Bits64
import Derived.Test.YtgcepckaolkeoaaGreatDoorRows
import Derived.Lib.LaidTab
import Derived.OpenShut
namespace Go.Proofs.YtgcepckaolkeoaaGreatDoor
open Go.RowKit
open Go.Proofs.Tryz
open Go.World renaming block_lt_of_cell? → wJ, size_alloc → wU
open List renaming length_append → lQ, length_map → lU, length_replicate → rJ, length_set → lJ, replicate → rQ, setIfInBounds_toArray → sU
open Nat renaming lt_of_lt_of_le → nJ
set_option linter.unusedVariables false
def Iv (k:IntKind) (l:List Int):Array Value:=(l.map (Value.int k)).toArray
theorem aD (k:IntKind) (l:List Int):(Iv k l).size=l.length:=by simp[Iv]
theorem aG (k:IntKind) (l:List Int):(Iv k l).all (·.oneCell')=true:=by simp[Iv,Value.oneCell']
theorem cN (k:IntKind) (l:List Int) (i:Nat) (h:i<l.length):(Iv k l)[i]? =some (.int k l[i]):=by simp[Iv,h]
theorem jW (k:IntKind) (l:List Int) (i:Nat) (h:i<l.length):∃v,(Iv k l)[i]? =some v:=⟨_,cN k l i h⟩
theorem bN (k:IntKind) (l:List Int) (i:Nat) (x:Int):(Iv k l).setIfInBounds i (.int k x)=Iv k (l.set i x):=by
 unfold Iv
 rw[sU,←List.map_set]
theorem qF (l:List Int) (n k:Nat) (hl:l.length=n) (h:k<n) (z:Int):
 (l.take k++rQ (n - k) z).set k l[k]=l.take (k+1)++rQ (n - (k+1)) z:=by
 subst hl
 apply List.ext_getElem
 ·simp;omega
 ·intro i h1 h2
  simp only[lJ,lQ,List.length_take,rJ]at h1
  simp only[List.getElem_set,List.getElem_append,List.length_take,List.getElem_take,List.getElem_replicate]
  split<;>rename_i hk
  ·subst hk;rw[dif_pos (by omega)]
  ·split<;>split<;>first|rfl|omega
theorem PG (l:List Int) (n:Nat) (z:Int):l.take 0++rQ (n - 0) z=rQ n z:=by simp
theorem uG (l:List Int) (n:Nat) (hl:l.length=n) (z:Int):l.take n++rQ (n - n) z=l:=by simp[←hl]
theorem bO (w:World) (o:Obj) (i:Nat):(w.alloc o).heap[i]? =if i=w.heap.size then some o else w.heap[i]? :=by
 show(w.heap.push o)[i]? =_
 exact Array.getElem?_push
theorem aM {B:Nat} {a w:World} (h:Below B a w) (g:Nat) (hg:B≤g) (cs:Array Value):Below B a (w.setRow g cs):=by
 refine⟨h.os,h.tape,h.output,?_,?_⟩
 ·simpa using h.size
 ·intro k hk
  rw[←h.block k hk]
  simp[World.setRow,Array.getElem?_modify]
  omega
theorem cG (w:World) (g k:Nat) (cs:Array Value) (h:k≠g):(w.setRow g cs).heap[k]? =w.heap[k]? :=by
 simp[World.setRow,Array.getElem?_modify]
 omega
theorem eO (w:World) (g i:Nat) (C old:Array Value) (t:TypeId) (fr:Nat×Nat) (hg:w.heap[g]? =some (.cells old t fr)):(w.setRow g C).cell? ⟨g,i,none⟩=C[i]? :=by
 rw[cell_of_row _ _ _ _ _ _ (setRow_heap w g old C t fr hg)]
theorem aZ (w:World) (g:Nat) (C:Array Value) (a:Addr) (h:a.block≠g):(w.setRow g C).cell? a=w.cell? a:=by
 unfold World.cell?
 rw[cG _ _ _ _ h]
theorem iF (w:World) (g:Nat) (C:Array Value) (a:Addr):(w.setRow g C).frozen? a=w.frozen? a:=by
 unfold World.frozen?
 by_cases h:a.block=g
 ·subst h
  simp only[World.setRow,Array.getElem?_modify,if_true]
  cases w.heap[a.block]? with
  | none=>rfl
  | some o=>cases o<;>rfl
 ·rw[cG _ _ _ _ h]
theorem aL (w:World) (g i:Nat) (C:Array Value) (v:Value):(w.setRow g C).setCell ⟨g,i,none⟩ v=w.setRow g (C.setIfInBounds i v):=by
 simp only[World.setRow,World.setCell]
 congr 1
 apply Array.ext_getElem?
 intro j
 simp only[Array.getElem?_modify]
 by_cases h:g=j
 ·subst h
  simp only[if_true]
  cases w.heap[g]? with
  | none=>rfl
  | some o=>cases o<;>rfl
 ·simp only[if_neg h]
theorem GY (w:World) (g:Nat) (C D:Array Value):(w.setRow g C).setRow g D=w.setRow g D:=by
 simp only[World.setRow]
 congr 1
 apply Array.ext_getElem?
 intro j
 simp only[Array.getElem?_modify]
 by_cases h:g=j
 ·subst h
  simp only[if_true]
  cases w.heap[g]? with
  | none=>rfl
  | some o=>cases o<;>rfl
 ·simp only[if_neg h]
theorem iD (w:World) (g:Nat) (C:Array Value) (t:TypeId) (fr:Nat×Nat) (hg:w.heap[g]? =some (.cells C t fr)):w.setRow g C=w:=by
 cases w with
 | mk heap tape drawn os output=>
   simp only[World.setRow]
   congr 1
   apply Array.ext_getElem?
   intro j
   simp only[Array.getElem?_modify]
   by_cases h:g=j
   ·subst h
    simp only[if_true]
    simp only at hg
    rw[hg]
    rfl
   ·simp only[if_neg h]
theorem LM (w:World) (c C:Array Value) (t:TypeId):(w.alloc (.cells c t)).setRow w.heap.size C=w.alloc (.cells C t):=by
 simp only[World.setRow,World.alloc]
 congr 1
 apply Array.ext_getElem?
 intro j
 simp only[Array.getElem?_modify,Array.getElem?_push]
 by_cases h:w.heap.size=j
 ·subst h
  simp
 ·simp only[if_neg h,if_neg (Ne.symm h)]
theorem pG (w:World) (c C:Array Value) (t:TypeId) (g:Nat) (hg:g=w.heap.size):(w.alloc (.cells c t)).setRow g C=w.alloc (.cells C t):=by
 subst hg
 exact LM w c C t
theorem uZ (w:World) (g:Nat) (C:Array Value):w.drew.setRow g C=(w.setRow g C).drew:=rfl
theorem rL (w:World) (a:Addr) (d:Nat) (v:Value):(w.drewN d).setCell a v=(w.setCell a v).drewN d:=rfl
theorem YD (k:IntKind) (a b c d e:Int):(#[Value.int k a,.int k b,.int k c,.int k d,.int k e].all (·.oneCell'))=true:=by simp[Value.oneCell']
theorem bDr {B:Nat} {a w:World} (h:Below B a w) (n:Nat):Below B a (w.drewN n):=⟨h.os,h.tape,h.output,h.size,h.block⟩
theorem oT {P:Program} {fn:Func} {R:Ending→World→Prop} {tmps:Array Value} {w:World} {p:Tmp} {ty:TypeId} {g:Nat} {t:TypeId} {cs:Array Value} {fr:Nat×Nat} {n:Nat} {e:TypeId}
 (h:fn.results=#[.cell p ty]) (hp:tmps.getD p undef=.pointer (some ⟨g,0,none⟩)) (hg:w.heap[g]? =some (.cells cs t fr))
 (hu:P.underlying ty=some (.array n e)) (hi:(P.info? ty).map (·.size)=some cs.size) (hR:R (.returned (.agg cs)) w):
 bodyPost P fn R .ret { tmps:=tmps,defers:=[] } w:=
 bodyPost_ret (v:=.agg cs) (results_cell_row h tmps w g t cs fr (.array n e) hp hg hu rfl hi) rfl hR
theorem hJ {w:World} {g:Nat} {c0 c1 c2 c3 c4:Value} {t:TypeId} {fr:Nat×Nat} (h:w.heap[g]? =some (.cells #[c0,c1,c2,c3,c4] t fr)):
 w.cell? ⟨g,0,none⟩=some c0∧w.cell? ⟨g,1,none⟩=some c1∧w.cell? ⟨g,2,none⟩=some c2∧w.cell? ⟨g,3,none⟩=some c3∧w.cell? ⟨g,4,none⟩=some c4:=
 ⟨cell_of_row w g 0 _ _ _ h,cell_of_row w g 1 _ _ _ h,cell_of_row w g 2 _ _ _ h,cell_of_row w g 3 _ _ _ h,cell_of_row w g 4 _ _ _ h⟩
theorem agL {w:World} {g:Nat} {c0 c1 c2 c3 c4:Value} {t:TypeId} (h:w.heap[g]? =some (.cells #[c0,c1,c2,c3,c4] t)) (d0 d1 d2 d3 d4:Value):
 (((((w.setCell ⟨g,0,none⟩ d0).setCell ⟨g,1,none⟩ d1).setCell ⟨g,2,none⟩ d2).setCell ⟨g,3,none⟩ d3).setCell ⟨g,4,none⟩ d4)=w.setRow g #[d0,d1,d2,d3,d4]:=by
 have e0:w.setCell ⟨g,0,none⟩ d0=w.setRow g #[d0,c1,c2,c3,c4]:=by
  rw[setCell_eq_setRow w g 0 _ t (0,0) d0 h]
  rfl
 rw[e0,aL,aL,aL,aL]
 rfl
theorem I3 (k:IntKind) (n:Nat):madeCells #[Value.int k 0] n=Iv k (rQ n 0):=by
 rw[←Array.toArray_toList (xs:=madeCells #[Value.int k 0] n),toList_madeCells_one]
 simp[Iv]
theorem I5 {P:Program} (t e:TypeId) (k:IntKind) (bytes n:Nat) (ht:P.underlying t=some (.slice e)) (hinfo:(P.info? e).map (fun i=>(i.zero,i.size,i.bytes))=some (some (.int k 0),1,bytes))
 (hb:bytes*n≤281474976710656) (hn:n≤9223372036854775807) (w:World):
 (Instr.makeSlice t (.int .i64 (n:Int)) (.int .i64 (n:Int))).run P w=.ok (.slice (some ⟨w.heap.size,0,none⟩) n n) (w.alloc (.cells (Iv k (rQ n 0)) e)):=by
 obtain⟨i,hi,hz,hs,hby⟩:=info_parts hinfo
 have h:=run_make (P:=P) w t e i (.int k 0) ht hi hz .i64 .i64 (n:Int) (n:Int) (by omega) (by omega) (by rw[hby,←Int.natCast_mul];omega) (by omega)
 rw[h,hs]
 simp only[Int.toNat_natCast,Nat.mul_one]
 rw[show(Value.int k 0).cells=#[Value.int k 0]from rfl,I3]
theorem kX (w:World) (o0 o1:Obj):∃W,(w.alloc o0).alloc o1=W∧W.heap[w.heap.size]? =some o0∧W.heap[w.heap.size+1]? =some o1∧W.heap.size=w.heap.size+1+1∧Below w.heap.size w W:=by
 refine⟨_,rfl,?_,?_,by simp,((Below.refl _ _).alloc (by simp) _).alloc (by simp) _⟩
 ·simp only[bO,wU];(repeat(first|rw[if_neg (by omega)]|rw[if_pos (by omega)]));try rfl
 ·simp only[bO,wU];(repeat(first|rw[if_neg (by omega)]|rw[if_pos (by omega)]));try rfl
theorem oF (w:World) (o0 o1 o2:Obj):∃W,((w.alloc o0).alloc o1).alloc o2=W∧W.heap[w.heap.size]? =some o0∧W.heap[w.heap.size+1]? =some o1∧W.heap[w.heap.size+1+1]? =some o2∧W.heap.size=w.heap.size+1+1+1∧Below w.heap.size w W:=by
 refine⟨_,rfl,?_,?_,?_,by simp,(((Below.refl _ _).alloc (by simp) _).alloc (by simp) _).alloc (by simp;omega) _⟩
 ·simp only[bO,wU];(repeat(first|rw[if_neg (by omega)]|rw[if_pos (by omega)]));try rfl
 ·simp only[bO,wU];(repeat(first|rw[if_neg (by omega)]|rw[if_pos (by omega)]));try rfl
 ·simp only[bO,wU];(repeat(first|rw[if_neg (by omega)]|rw[if_pos (by omega)]));try rfl
theorem qZ (w:World) (o0 o1 o2 o3:Obj):∃W,(((w.alloc o0).alloc o1).alloc o2).alloc o3=W∧W.heap[w.heap.size]? =some o0∧W.heap[w.heap.size+1]? =some o1∧W.heap[w.heap.size+1+1]? =some o2∧W.heap[w.heap.size+1+1+1]? =some o3∧W.heap.size=w.heap.size+1+1+1+1∧Below w.heap.size w W:=by
 refine⟨_,rfl,?_,?_,?_,?_,by simp,((((Below.refl _ _).alloc (by simp) _).alloc (by simp) _).alloc (by simp;omega) _).alloc (by simp;omega) _⟩
 ·simp only[bO,wU];(repeat(first|rw[if_neg (by omega)]|rw[if_pos (by omega)]));try rfl
 ·simp only[bO,wU];(repeat(first|rw[if_neg (by omega)]|rw[if_pos (by omega)]));try rfl
 ·simp only[bO,wU];(repeat(first|rw[if_neg (by omega)]|rw[if_pos (by omega)]));try rfl
 ·simp only[bO,wU];(repeat(first|rw[if_neg (by omega)]|rw[if_pos (by omega)]));try rfl
def aC (w:World) (g:Nat) (k:IntKind) (l:List Int) (t:TypeId):Prop:=w.heap[g]? =some (.cells (Iv k l) t)
theorem aC.lt {w:World} {g:Nat} {k:IntKind} {l:List Int} {t:TypeId} (h:aC w g k l t):g<w.heap.size:=(Array.getElem?_eq_some_iff.1 h).1
theorem aC.far {w:World} {g:Nat} {k:IntKind} {l:List Int} {t:TypeId} (h:aC w g k l t) (g':Nat) (cs:Array Value) (hne:g≠g') (d:Nat):aC ((w.setRow g' cs).drewN d) g k l t:=(cG w g' g cs hne).trans h
theorem aC.put {w:World} {g:Nat} {k:IntKind} {l:List Int} {t:TypeId} (h:aC w g k l t) (l':List Int) (d:Nat):aC ((w.setRow g (Iv k l')).drewN d) g k l' t:=setRow_heap w g _ _ _ _ h
theorem aC.setCell {w:World} {g:Nat} {k:IntKind} {l:List Int} {t:TypeId} (h:aC w g k l t) (i:Nat) (x:Int):aC (w.setCell ⟨g,i,none⟩ (.int k x)) g k (l.set i x) t:=by
 show _=_
 rw[setCell_eq_setRow w g i _ t (0,0) _ h,bN]
 exact setRow_heap _ _ _ _ _ _ h
theorem aC.setFar {w:World} {g:Nat} {k:IntKind} {l:List Int} {t:TypeId} (h:aC w g k l t) (a:Addr) (v:Value) (hne:a.block≠g):aC (w.setCell a v) g k l t:=(heap_setCell_other w a g v (fun e=>hne e.symm)).trans h
theorem aC.frozen {w:World} {g:Nat} {k:IntKind} {l:List Int} {t:TypeId} (h:aC w g k l t) (i:Nat):w.frozen? ⟨g,i,none⟩=false:=frozen_of_row _ _ _ _ _ h
theorem aC.below {w w':World} {g B:Nat} {k:IntKind} {l:List Int} {t:TypeId} (h:aC w g k l t) (hb:Below B w w') (hg:g<B):aC w' g k l t:=(hb.block g hg).trans h
theorem aC.cell {w:World} {g:Nat} {k:IntKind} {l:List Int} {t:TypeId} (h:aC w g k l t) (i:Nat) (hi:i<l.length):w.cell? ⟨g,i,none⟩=some (.int k (l.getD i 0)):=by
 rw[cell_of_row _ _ _ _ _ _ h,cN k l i hi]
 simp[hi]
theorem qJ {P:Program} {ops:Array Oper} {W:World} {Q:Act→Prop}:∀(l:List Oper) (a:Act),wpQuiet P ops (fun w'=>w'=W) Q l a→wpStill P ops W Q l a
 | [],_,h=>h
 | o::rest,a,h=>by
   unfold wpQuiet at h
   unfold wpStill
   split
   ·rename_i hw
    simp only[hw,if_true]at h
    obtain⟨v,h1,h2⟩:=h
    have h3:=h1 W rfl
    have h4:=qJ rest _ h2
    unfold Oper.quietAt at h3
    unfold Oper.still
    generalize(execOp a.eval o).run P W=r at*
    cases r with
    | ok n w'=>
      cases n<;>simp only[Oper.quietUpon]at h3<;>simp only[Oper.stillUpon]
      case value u=>obtain⟨e1,e2⟩:=h3;subst e2;exact⟨e1,h4⟩
      case skip=>obtain⟨e1,e2⟩:=h3;subst e2;exact⟨e1,h4⟩
      case enter f args=>obtain⟨e1,hc⟩:=h3;exact⟨e1,v,hc,h4⟩
    | halt x w'=>simp only[Oper.quietUpon]at h3
   ·rename_i hw
    simp only[hw]at h
    exact qJ rest _ h
theorem wRh {P:Program} {id:Nat} {Q:Exit→Act→World→Prop} {a:Act} {w:World} {l:List Oper} (n:Nat) (hm:P.follows .mixedOrders=true) (hB:Region.lexTailB .any l.toArray n=true)
 (h:wpQuiet P l.toArray (fun w'=>w'=w.drew) (fun a'=>wpList P l.toArray Q (l.drop n) a' w.drew) (l.take n) a):(Code.region id l.toArray true).wp P Q a w:=
 wp_region_still_tail n hm hB (qJ _ _ h)
theorem uJ (n:Int) (h0:0≤n) (h1:n<2^64):IntKind.u64.wrap n=n:=by rw[IntKind.wrap_u64];omega
theorem xU (n:Int) (h0:0≤n) (h1:n<2^32):IntKind.u32.wrap n=n:=by rw[IntKind.wrap_u32];omega
theorem lA (x:Int) (h0:0≤x) (h1:x<18446744073709551616):bits .and .u64 x 67108863=x%67108864:=
 bits_mask .u64 64 (by decide) uJ 26 (by decide) x h0 h1
theorem agG (i:Nat) (x y:Int) (hi:i≤64) (hx0:0≤x) (hx:x%2^i=0) (hx1:x<18446744073709551616) (hy0:0≤y) (hy:y<2^i):bits .or .u64 x y=x+y:=by
 have h64:(2:Int)^i≤2^64:=by exact_mod_cast Nat.pow_le_pow_right (n:=2) (by decide) hi
 exact bits_join .u64 64 (by decide) uJ i x y hx0 hx hx1 hy0 hy (by omega)
theorem zG (i:Nat) (y x:Int) (hi:i≤64) (hx0:0≤x) (hx:x%2^i=0) (hx1:x<18446744073709551616) (hy0:0≤y) (hy:y<2^i):bits .or .u64 y x=y+x:=by
 have h64:(2:Int)^i≤2^64:=by exact_mod_cast Nat.pow_le_pow_right (n:=2) (by decide) hi
 have h:=agG i x y hi hx0 hx hx1 hy0 hy
 obtain⟨a,rfl⟩:=Int.eq_ofNat_of_zero_le hx0
 obtain⟨b,rfl⟩:=Int.eq_ofNat_of_zero_le hy0
 rw[(bits_nat .u64 64 (by decide) uJ a b (by omega) (by omega)).2]at h
 rw[(bits_nat .u64 64 (by decide) uJ b a (by omega) (by omega)).2,Nat.or_comm,h]
 omega
theorem qQ (i:Nat) (y x:Int) (hi:i≤32) (hx0:0≤x) (hx:x%2^i=0) (hx1:x<4294967296) (hy0:0≤y) (hy:y<2^i):bits .or .u32 y x=y+x:=by
 have h32:(2:Int)^i≤2^32:=by exact_mod_cast Nat.pow_le_pow_right (n:=2) (by decide) hi
 have h:=bits_join .u32 32 (by decide) xU i x y hx0 hx hx1 hy0 hy (by omega)
 obtain⟨a,rfl⟩:=Int.eq_ofNat_of_zero_le hx0
 obtain⟨b,rfl⟩:=Int.eq_ofNat_of_zero_le hy0
 rw[(bits_nat .u32 32 (by decide) xU a b (by omega) (by omega)).2]at h
 rw[(bits_nat .u32 32 (by decide) xU b a (by omega) (by omega)).2,Nat.or_comm,h]
 omega
theorem xB (i:Nat) (x y:Int) (hi:i≤32) (hx0:0≤x) (hx:x%2^i=0) (hx1:x<4294967296) (hy0:0≤y) (hy:y<2^i):bits .or .u32 x y=x+y:=by
 have h32:(2:Int)^i≤2^32:=by exact_mod_cast Nat.pow_le_pow_right (n:=2) (by decide) hi
 exact bits_join .u32 32 (by decide) xU i x y hx0 hx hx1 hy0 hy (by omega)
theorem ad5 (x:Int) (h0:0≤x) (h1:x<4294967296):bits .and .u32 x 268435455=x%268435456:=
 bits_mask .u32 32 (by decide) xU 28 (by decide) x h0 h1
theorem U2 (a:Nat):a&&& 268435452=4*(a / 4%67108864):=by
 have h1:(a&&& 268435452) / 2^2=(a / 2^2)&&& 67108863:=by rw[←Nat.shiftRight_eq_div_pow,Nat.shiftRight_and_distrib,←Nat.shiftRight_eq_div_pow];simp
 have h2:(a&&& 268435452)%2^2=0:=by rw[Nat.and_mod_two_pow];simp
 have h3:(a / 2^2)&&& 67108863=(a / 2^2)%67108864:=Nat.and_two_pow_sub_one_eq_mod _ 26
 rw[h3]at h1
 omega
theorem OM (x:Int) (h0:0≤x) (h1:x<4294967296):bits .and .u32 x 268435452=4*(x / 4%67108864):=by
 obtain⟨a,rfl⟩:=Int.eq_ofNat_of_zero_le h0
 have h:=(bits_nat .u32 32 (by decide) xU a 268435452 (by omega) (by decide)).1
 rw[show((268435452:Nat):Int)=268435452 from rfl]at h
 rw[h,U2]
 omega
def aF (zs:List Int) (i:Nat):Int:=zs.getD (4*i) 0+256*zs.getD (4*i+1) 0+65536*zs.getD (4*i+2) 0+16777216*zs.getD (4*i+3) 0
def aE (zs:List Int):Prop:=∀i,0≤zs.getD i 0∧zs.getD i 0≤255
theorem BL (zs:List Int) (q:Nat):aF (zs.drop (4*q)) 0=aF zs q:=by
 simp only[aF,List.getD_eq_getElem?_getD,List.getElem?_drop]
 rfl
theorem cE {zs:List Int} (h:aE zs) (k:Nat):aE (zs.drop k):=by
 intro i
 have:=h (k+i)
 simpa only[List.getD_eq_getElem?_getD,List.getElem?_drop]using this
theorem kW {zs:List Int} (h:aE zs) (i:Nat):0≤aF zs i∧aF zs i<4294967296:=by
 have h0:=h (4*i)
 have h1:=h (4*i+1)
 have h2:=h (4*i+2)
 have h3:=h (4*i+3)
 unfold aF
 omega
theorem cT (zs:List Int) (n i:Nat):(zs.take n).getD i 0=if i<n then zs.getD i 0 else 0:=by
 simp only[List.getD_eq_getElem?_getD,List.getElem?_take]
 split<;>rfl
theorem dB {zs:List Int} (h:aE zs) (n:Nat):aE (zs.take n):=by
 intro i
 have:=h i
 rw[cT]
 split
 ·exact this
 ·omega
theorem wE (zs:List Int) (n i:Nat) (h:4*i+3<n):aF (zs.take n) i=aF zs i:=by
 unfold aF
 rw[cT,cT,cT,cT,if_pos (by omega),if_pos (by omega),if_pos (by omega),if_pos (by omega)]
theorem AK (zs:List Int) (i:Nat) (h:zs.length≤4*i):aF zs i=0:=by
 unfold aF
 simp only[List.getD_eq_getElem?_getD]
 rw[List.getElem?_eq_none (by omega),List.getElem?_eq_none (by omega),List.getElem?_eq_none (by omega),List.getElem?_eq_none (by omega)]
 rfl
theorem ae7 (k:Nat):(2:Int)^(8*k)=256^k:=by rw[Int.pow_mul];rfl
theorem Y8 (z0 z1 z2 z3:Int) (h0:0≤z0) (g0:z0≤255) (h1:0≤z1) (g1:z1≤255) (h2:0≤z2) (g2:z2≤255) (h3:0≤z3) (g3:z3≤255):
 bits .or .u32 (bits .or .u32 (bits .or .u32 z0 (z1*256)) (z2*65536)) (z3*16777216)=z0+256*z1+65536*z2+16777216*z3:=by
 rw[qQ 8 z0 (z1*256) (by decide) (by omega) (by omega) (by omega) (by omega) (by omega),qQ 16 (z0+z1*256) (z2*65536) (by decide) (by omega) (by omega) (by omega) (by omega) (by omega),qQ 24 (z0+z1*256+z2*65536) (z3*16777216) (by decide) (by omega) (by omega) (by omega) (by omega) (by omega)]
 omega
def pF9 (l:List Int) (off:Nat) (f:Nat→Int) (k:Nat):List Int:=l.take off++(List.range k).map f++l.drop (off+k)
theorem bZ (l:List Int) (off:Nat) (f:Nat→Int):pF9 l off f 0=l:=by simp[pF9]
theorem aP (l:List Int) (off:Nat) (f:Nat→Int) (k:Nat) (h:off+k≤l.length):(pF9 l off f k).length=l.length:=by
 simp[pF9];omega
theorem cV (l:List Int) (off:Nat) (f:Nat→Int) (k i:Nat) (h:off+k≤l.length):(pF9 l off f k)[i]? =if off≤i∧i<off+k then some (f (i - off))else l[i]? :=by
 simp only[pF9]
 rw[List.append_assoc,List.getElem?_append]
 simp only[List.length_take,List.getElem?_append,lU,List.length_range,List.getElem?_map,List.getElem?_drop]
 by_cases h1:i<min off l.length
 ·rw[if_pos h1,if_neg (by omega),List.getElem?_take,if_pos (by omega)]
 ·rw[if_neg h1]
  by_cases h2:i - min off l.length<k
  ·rw[if_pos h2,if_pos (by omega),List.getElem?_range h2]
   simp only[Option.map_some]
   congr 2
   omega
  ·rw[if_neg h2,if_neg (by omega)]
   congr 1
   omega
theorem bJ (l:List Int) (off:Nat) (f:Nat→Int) (k:Nat) (h:off+k<l.length):(pF9 l off f k).set (off+k) (f k)=pF9 l off f (k+1):=by
 apply List.ext_getElem?
 intro i
 rw[List.getElem?_set,cV _ _ _ _ _ (by omega),cV _ _ _ _ _ (by omega),aP _ _ _ _ (by omega)]
 by_cases h1:off+k=i
 ·subst h1
  rw[if_pos rfl,if_pos (by omega),if_pos (by omega)]
  congr 2
  omega
 ·rw[if_neg h1]
  by_cases h2:off≤i∧i<off+k
  ·rw[if_pos h2,if_pos (by omega)]
  ·rw[if_neg h2,if_neg (by omega)]
theorem zL (l:List Int) (f g:Nat→Int) (n m:Nat) (h:n+m≤l.length) (hg:∀i,i<m→g i=f (n+i)):pF9 (pF9 l 0 f n) n g m=pF9 l 0 f (n+m):=by
 apply List.ext_getElem?
 intro i
 rw[cV _ _ _ _ _ (by rw[aP _ _ _ _ (by omega)];omega),cV _ _ _ _ _ (by omega),cV _ _ _ _ _ (by omega)]
 by_cases h1:n≤i∧i<n+m
 ·rw[if_pos h1,if_pos (by omega),hg _ (by omega)]
  congr 2
  omega
 ·rw[if_neg h1]
  by_cases h2:0≤i∧i<0+n
  ·rw[if_pos h2,if_pos (by omega)]
  ·rw[if_neg h2,if_neg (by omega)]
def Car (a0 a1 a2 a3 a4 r0 r1 r2 r3 r4:Int):Prop:=
 ∃c0 c1 c2 c3 c4 t0 t1 d:Int,a0=67108864*c0+t0∧0≤t0∧t0<67108864∧a1+c0=67108864*c1+t1∧0≤t1∧t1<67108864∧
  a2+c1=67108864*c2+r2∧0≤r2∧r2<67108864∧a3+c2=67108864*c3+r3∧0≤r3∧r3<67108864∧a4+c3=67108864*c4+r4∧0≤r4∧r4<67108864∧
  t0+5*c4=67108864*d+r0∧0≤r0∧r0<67108864∧r1=t1+d
theorem ab3 (a0 a1 a2 a3 a4:Int) (h0:0≤a0) (g0:a0≤576460752303423488) (h1:0≤a1) (g1:a1≤576460752303423488) (h2:0≤a2) (g2:a2≤576460752303423488) (h3:0≤a3) (g3:a3≤576460752303423488) (h4:0≤a4) (g4:a4≤576460752303423488):
 Car a0 a1 a2 a3 a4
  (bits .and .u64 (IntKind.u64.wrap (bits .and .u64 a0 67108863+5*((a4+(a3+(a2+(a1+a0 / 67108864) / 67108864) / 67108864) / 67108864) / 67108864))) 67108863)
  (IntKind.u64.wrap (bits .and .u64 (a1+a0 / 67108864) 67108863+IntKind.u64.wrap (bits .and .u64 a0 67108863+5*((a4+(a3+(a2+(a1+a0 / 67108864) / 67108864) / 67108864) / 67108864) / 67108864)) / 67108864))
  (bits .and .u64 (a2+(a1+a0 / 67108864) / 67108864) 67108863)
  (bits .and .u64 (a3+(a2+(a1+a0 / 67108864) / 67108864) / 67108864) 67108863)
  (bits .and .u64 (a4+(a3+(a2+(a1+a0 / 67108864) / 67108864) / 67108864) / 67108864) 67108863):=by
 have e0:=lA a0 h0 (by omega)
 generalize hc0:a0 / 67108864=c0
 have e1:=lA (a1+c0) (by omega) (by omega)
 generalize hc1:(a1+c0) / 67108864=c1
 have e2:=lA (a2+c1) (by omega) (by omega)
 generalize hc2:(a2+c1) / 67108864=c2
 have e3:=lA (a3+c2) (by omega) (by omega)
 generalize hc3:(a3+c2) / 67108864=c3
 have e4:=lA (a4+c3) (by omega) (by omega)
 generalize hc4:(a4+c3) / 67108864=c4
 have w0:IntKind.u64.wrap (a0%67108864+5*c4)=a0%67108864+5*c4:=uJ _ (by omega) (by omega)
 have e5:=lA (a0%67108864+5*c4) (by omega) (by omega)
 have w1:IntKind.u64.wrap ((a1+c0)%67108864+(a0%67108864+5*c4) / 67108864)=(a1+c0)%67108864+(a0%67108864+5*c4) / 67108864:=uJ _ (by omega) (by omega)
 rw[e0,w0,e5,e1,w1,e2,e3,e4]
 refine⟨c0,c1,c2,c3,c4,a0%67108864,(a1+c0)%67108864,(a0%67108864+5*c4) / 67108864,?_⟩
 omega
def V5 (a0 a1 a2 a3 a4:Int):Int:=a0+67108864*a1+4503599627370496*a2+302231454903657293676544*a3+20282409603651670423947251286016*a4
def oL (a0 a1 a2 a3 a4:Int):Prop:=0≤a0∧a0≤67108863∧0≤a1∧a1≤67108863∧0≤a2∧a2≤67108863∧0≤a3∧a3≤67108863∧0≤a4∧a4≤67108863
def gS:Int:=1361129467683753853853498429727072845819
theorem IM {a0 a1 a2 a3 a4 r0 r1 r2 r3 r4:Int} (h:Car a0 a1 a2 a3 a4 r0 r1 r2 r3 r4):∃q,V5 r0 r1 r2 r3 r4=V5 a0 a1 a2 a3 a4 - gS*q:=by
 obtain⟨c0,c1,c2,c3,c4,t0,t1,d,h⟩:=h
 refine⟨c4,?_⟩
 unfold V5 gS
 omega
theorem ab2 {a0 a1 a2 a3 a4 r0 r1 r2 r3 r4:Int} (h:Car a0 a1 a2 a3 a4 r0 r1 r2 r3 r4) (h0:0≤a0) (g0:a0≤576460752303423488) (h1:0≤a1) (g1:a1≤576460752303423488) (h2:0≤a2) (g2:a2≤576460752303423488) (h3:0≤a3) (g3:a3≤576460752303423488) (h4:0≤a4) (g4:a4≤576460752303423488):
 0≤r0∧r0≤67108863∧0≤r1∧r1≤67109888∧0≤r2∧r2≤67108863∧0≤r3∧r3≤67108863∧0≤r4∧r4≤67108863:=by
 obtain⟨c0,c1,c2,c3,c4,t0,t1,d,h⟩:=h
 omega
theorem M9 (w0 w1 w2 w3 w4:Int) (h0:0≤w0) (g0:w0<4294967296) (h1:0≤w1) (g1:w1<4294967296) (h2:0≤w2) (g2:w2<4294967296) (h3:0≤w3) (g3:w3<4294967296) (h4:0≤w4) (g4:w4≤1):
 V5 (w0%67108864) (w0 / 67108864+64*(w1%1048576)) (w1 / 1048576+4096*(w2%16384)) (w2 / 16384+262144*(w3%256)) (w3 / 256+16777216*w4)=
  w0+4294967296*w1+18446744073709551616*w2+79228162514264337593543950336*w3+340282366920938463463374607431768211456*w4∧
 oL (w0%67108864) (w0 / 67108864+64*(w1%1048576)) (w1 / 1048576+4096*(w2%16384)) (w2 / 16384+262144*(w3%256)) (w3 / 256+16777216*w4):=by
 unfold V5 oL
 omega
theorem TH {a0 a1 a2 a3 a4 r0 r1 r2 r3 r4:Int} (h:Car a0 a1 a2 a3 a4 r0 r1 r2 r3 r4) (h0:0≤a0) (g0:a0≤67108863) (h1:0≤a1) (g1:a1≤67109888) (h2:0≤a2) (g2:a2≤67108863) (h3:0≤a3) (g3:a3≤67108863) (h4:0≤a4) (g4:a4≤67108863):
 0≤r0∧r0≤67108863∧0≤r1∧r1≤67108863∧0≤r2∧r2≤67108863∧0≤r3∧r3≤67108863∧0≤r4∧r4≤67108863:=by
 obtain⟨c0,c1,c2,c3,c4,t0,t1,d,h⟩:=h
 omega
theorem QF (r0 r1 r2 r3 r4:Int) (h0:0≤r0) (g0:r0≤67108863) (h1:0≤r1) (g1:r1≤67108863) (h2:0≤r2) (g2:r2≤67108863) (h3:0≤r3) (g3:r3≤67108863) (h4:0≤r4) (g4:r4≤67108863) (c:Int)
 (hc:c=(r4+(r3+(r2+(r1+(r0+5) / 67108864) / 67108864) / 67108864) / 67108864) / 67108864):
 (0<c→V5 (bits .and .u64 (r0+5) 67108863) (bits .and .u64 (r1+(r0+5) / 67108864) 67108863) (bits .and .u64 (r2+(r1+(r0+5) / 67108864) / 67108864) 67108863)
   (bits .and .u64 (r3+(r2+(r1+(r0+5) / 67108864) / 67108864) / 67108864) 67108863) (bits .and .u64 (r4+(r3+(r2+(r1+(r0+5) / 67108864) / 67108864) / 67108864) / 67108864) 67108863)=V5 r0 r1 r2 r3 r4 - gS∧gS≤V5 r0 r1 r2 r3 r4)∧
 (¬0<c→V5 r0 r1 r2 r3 r4<gS)∧V5 r0 r1 r2 r3 r4<1361129467683753853853498429727072845824∧0≤V5 r0 r1 r2 r3 r4:=by
 rw[lA _ (by omega) (by omega),lA _ (by omega) (by omega),lA _ (by omega) (by omega),lA _ (by omega) (by omega),lA _ (by omega) (by omega)]
 generalize hc0:(r0+5) / 67108864=c0 at*
 generalize hc1:(r1+c0) / 67108864=c1 at*
 generalize hc2:(r2+c1) / 67108864=c2 at*
 generalize hc3:(r3+c2) / 67108864=c3 at*
 unfold V5 gS
 refine⟨fun h=>⟨by omega,by omega⟩,fun h=>by omega,by omega,by omega⟩
def aK (l:List Int) (i:Nat):Int:=l.getD i 0
def fU (x:Int):Prop:=0≤x∧x<4294967296
def xr (a b:Int):Int:=bits .xor .u32 a b
def ad (a b:Int):Int:=(a+b)%4294967296
def rl (n:Nat) (x:Int):Int:=x / 2^(32 - n)+x%2^(32 - n)*2^n
theorem iR (a b:Int):fU (xr a b):=by
 unfold xr fU
 rw[bits.eq_3,IntKind.wrap_u32]
 omega
theorem WN (a b:Int):fU (ad a b):=by
 unfold ad fU
 omega
theorem afC (x:Int) (h:fU x):fU (rl 16 x)∧bits .or .u32 (x*65536%4294967296) (x / 65536)=rl 16 x:=by
 obtain⟨h0,h1⟩:=h
 have e:rl 16 x=x / 65536+x%65536*65536:=rfl
 rw[e,xB 16 _ _ (by decide) (by omega) (by omega) (by omega) (by omega) (by omega)]
 unfold fU
 omega
theorem agH (x:Int) (h:fU x):fU (rl 12 x)∧bits .or .u32 (x*4096%4294967296) (x / 1048576)=rl 12 x:=by
 obtain⟨h0,h1⟩:=h
 have e:rl 12 x=x / 1048576+x%1048576*4096:=rfl
 rw[e,xB 12 _ _ (by decide) (by omega) (by omega) (by omega) (by omega) (by omega)]
 unfold fU
 omega
theorem rl8 (x:Int) (h:fU x):fU (rl 8 x)∧bits .or .u32 (x*256%4294967296) (x / 16777216)=rl 8 x:=by
 obtain⟨h0,h1⟩:=h
 have e:rl 8 x=x / 16777216+x%16777216*256:=rfl
 rw[e,xB 8 _ _ (by decide) (by omega) (by omega) (by omega) (by omega) (by omega)]
 unfold fU
 omega
theorem rl7 (x:Int) (h:fU x):fU (rl 7 x)∧bits .or .u32 (x*128%4294967296) (x / 33554432)=rl 7 x:=by
 obtain⟨h0,h1⟩:=h
 have e:rl 7 x=x / 33554432+x%33554432*128:=rfl
 rw[e,xB 7 _ _ (by decide) (by omega) (by omega) (by omega) (by omega) (by omega)]
 unfold fU
 omega
def qA (a b c d:Int):Int:=ad (ad a b) (rl 12 (xr b (ad c (rl 16 (xr d (ad a b))))))
def qD (a b c d:Int):Int:=rl 8 (xr (rl 16 (xr d (ad a b))) (qA a b c d))
def qC (a b c d:Int):Int:=ad (ad c (rl 16 (xr d (ad a b)))) (qD a b c d)
def qB (a b c d:Int):Int:=rl 7 (xr (rl 12 (xr b (ad c (rl 16 (xr d (ad a b)))))) (qC a b c d))
theorem ae8 (a b c d:Int):fU (qA a b c d):=WN _ _
theorem afB (a b c d:Int):fU (qD a b c d):=(rl8 _ (iR _ _)).1
theorem afA (a b c d:Int):fU (qC a b c d):=WN _ _
theorem ae9 (a b c d:Int):fU (qB a b c d):=(rl7 _ (iR _ _)).1
def q0 (i:Nat):Nat:=i%4
def q1 (i:Nat):Nat:=if i<4 then i+4 else 4+(i - 4+1)%4
def q2 (i:Nat):Nat:=if i<4 then i+8 else 8+(i - 4+2)%4
def q3 (i:Nat):Nat:=if i<4 then i+12 else 12+(i - 4+3)%4
theorem aa3 (i:Nat) (h:i<8):q0 i<16∧q1 i<16∧q2 i<16∧q3 i<16:=by
 unfold q0 q1 q2 q3
 refine⟨by omega,?_,?_,?_⟩<;>split<;>omega
theorem aa2 (i:Nat) (h:i<8):q0 i<4∧4≤q1 i∧q1 i<8∧8≤q2 i∧q2 i<12∧12≤q3 i∧q3 i<16:=by
 unfold q0 q1 q2 q3
 refine⟨by omega,?_,?_,?_,?_,?_,?_⟩<;>split<;>omega
def iC (l:List Int) (a b c d:Nat):List Int:=
 (((l.set a (qA (l.getD a 0) (l.getD b 0) (l.getD c 0) (l.getD d 0))).set b (qB (l.getD a 0) (l.getD b 0) (l.getD c 0) (l.getD d 0))).set c (qC (l.getD a 0) (l.getD b 0) (l.getD c 0) (l.getD d 0))).set d (qD (l.getD a 0) (l.getD b 0) (l.getD c 0) (l.getD d 0))
def uN (l:List Int):Nat→List Int
 | 0=>l
 | k+1=>iC (uN l k) (q0 k) (q1 k) (q2 k) (q3 k)
def bK (l:List Int):Nat→List Int
 | 0=>l
 | k+1=>uN (bK l k) 8
def kM:List Int:=[1634760805,857760878,2036477234,1797285236,0,0,0,0,0,0,0,0,0,0,0,0]
def i5 (key rest:List Int):List Int:=pF9 (pF9 kM 4 (aF key) 8) 12 (aF rest) 4
theorem JO (key rest:List Int):i5 key rest=[1634760805,857760878,2036477234,1797285236,aF key 0,aF key 1,aF key 2,aF key 3,aF key 4,aF key 5,aF key 6,aF key 7,aF rest 0,aF rest 1,aF rest 2,aF rest 3]:=rfl
def bF (l:List Int):Prop:=∀i,fU (l.getD i 0)
def put4 (l:List Int) (a b c d:Nat) (A B C D:Int):List Int:=(((l.set a A).set b B).set c C).set d D
theorem uV (l:List Int) (a b c d:Nat) (A B C D:Int):(put4 l a b c d A B C D).length=l.length:=by simp[put4]
theorem LG (l:List Int) {a b c d:Nat} (A B C D X:Int) (ab:a≠b) (ac:a≠c) (ad:a≠d):(put4 l a b c d A B C D).set a X=put4 l a b c d X B C D:=by
 simp only[put4]
 rw[List.set_comm _ _ (Ne.symm ad),List.set_comm _ _ (Ne.symm ac),List.set_comm _ _ (Ne.symm ab),List.set_set]
theorem LH (l:List Int) {a b c d:Nat} (A B C D X:Int) (bc:b≠c) (bd:b≠d):(put4 l a b c d A B C D).set b X=put4 l a b c d A X C D:=by
 simp only[put4]
 rw[List.set_comm _ _ (Ne.symm bd),List.set_comm _ _ (Ne.symm bc),List.set_set]
theorem LI (l:List Int) {a b c d:Nat} (A B C D X:Int) (cd:c≠d):(put4 l a b c d A B C D).set c X=put4 l a b c d A B X D:=by
 simp only[put4]
 rw[List.set_comm _ _ (Ne.symm cd),List.set_set]
theorem LJ (l:List Int) {a b c d:Nat} (A B C D X:Int):(put4 l a b c d A B C D).set d X=put4 l a b c d A B C X:=by
 simp only[put4,List.set_set]
theorem YS (l:List Int) (i:Nat):l.set i (l.getD i 0)=l:=by
 apply List.ext_getElem?
 intro j
 rw[List.getElem?_set]
 split
 ·rename_i h
  subst h
  split
  ·rename_i h
   simp[h]
  ·rename_i h
   rw[List.getElem?_eq_none (by omega)]
 ·rfl
theorem JJ (l:List Int) (a b c d:Nat):put4 l a b c d (l.getD a 0) (l.getD b 0) (l.getD c 0) (l.getD d 0)=l:=by
 simp only[put4,YS]
theorem SI (l:List Int) {a b c d:Nat} (A B C D:Int) (ha:a<l.length) (hb:b<l.length) (hc:c<l.length) (hd:d<l.length) (ab:a≠b) (ac:a≠c) (ad:a≠d) (bc:b≠c) (bd:b≠d) (cd:c≠d):
 (put4 l a b c d A B C D).getD a 0=A∧(put4 l a b c d A B C D).getD b 0=B∧(put4 l a b c d A B C D).getD c 0=C∧(put4 l a b c d A B C D).getD d 0=D:=by
 simp only[put4,List.getD_eq_getElem?_getD,List.getElem?_set,lJ]
 refine⟨?_,?_,?_,?_⟩
 ·rw[if_neg (Ne.symm ad),if_neg (Ne.symm ac),if_neg (Ne.symm ab)];simp[ha]
 ·rw[if_neg (Ne.symm bd),if_neg (Ne.symm bc)];simp[hb]
 ·rw[if_neg (Ne.symm cd)];simp[hc]
 ·simp[hd]
theorem PZ (l:List Int) (a b c d:Nat):iC l a b c d=put4 l a b c d (qA (l.getD a 0) (l.getD b 0) (l.getD c 0) (l.getD d 0)) (qB (l.getD a 0) (l.getD b 0) (l.getD c 0) (l.getD d 0)) (qC (l.getD a 0) (l.getD b 0) (l.getD c 0) (l.getD d 0)) (qD (l.getD a 0) (l.getD b 0) (l.getD c 0) (l.getD d 0)):=rfl
theorem tA (l:List Int) (a b c d:Nat):(iC l a b c d).length=l.length:=by simp[iC]
theorem qW (l:List Int):∀k,(uN l k).length=l.length
 | 0=>rfl
 | k+1=>by rw[uN,tA,qW l k]
theorem gH (l:List Int):∀k,(bK l k).length=l.length
 | 0=>rfl
 | k+1=>by rw[bK,qW,gH l k]
theorem gV {l:List Int} (h:bF l) (i:Nat) {x:Int} (hx:fU x):bF (l.set i x):=by
 intro j
 simp only[List.getD_eq_getElem?_getD,List.getElem?_set]
 split
 ·split
  ·exact hx
  ·exact⟨by decide,by decide⟩
 ·exact h j
theorem i9 {zs:List Int} (h:aE zs) (i:Nat):fU (aF zs i):=kW h i
theorem AP {key rest:List Int} (hk:aE key) (hr:aE rest):bF (i5 key rest):=by
 rw[JO]
 intro i
 match i with
 | 0=>exact(show fU 1634760805 from⟨by decide,by decide⟩)
 | 1=>exact(show fU 857760878 from⟨by decide,by decide⟩)
 | 2=>exact(show fU 2036477234 from⟨by decide,by decide⟩)
 | 3=>exact(show fU 1797285236 from⟨by decide,by decide⟩)
 | 4=>exact i9 hk 0
 | 5=>exact i9 hk 1
 | 6=>exact i9 hk 2
 | 7=>exact i9 hk 3
 | 8=>exact i9 hk 4
 | 9=>exact i9 hk 5
 | 10=>exact i9 hk 6
 | 11=>exact i9 hk 7
 | 12=>exact i9 hr 0
 | 13=>exact i9 hr 1
 | 14=>exact i9 hr 2
 | 15=>exact i9 hr 3
 | i+16=>exact⟨by simp,by simp⟩
theorem YC {l:List Int} (h:bF l) (a b c d:Nat):bF (iC l a b c d):=
 gV (gV (gV (gV h _ (ae8 _ _ _ _)) _ (ae9 _ _ _ _)) _ (afA _ _ _ _)) _ (afB _ _ _ _)
theorem DF {l:List Int} (h:bF l):∀k,bF (uN l k)
 | 0=>h
 | k+1=>YC (DF h k) _ _ _ _
theorem pZ {l:List Int} (h:bF l):∀k,bF (bK l k)
 | 0=>h
 | k+1=>DF (pZ h k) 8
def ad3 (a b x:Int):Int:=(a+b+x)%4294967296
theorem abY (a b x:Int):fU (ad3 a b x):=by unfold ad3 fU;omega
theorem agI (x:Int) (h:fU x):fU (rl 20 x)∧bits .or .u32 (x*1048576%4294967296) (x / 4096)=rl 20 x:=by
 obtain⟨h0,h1⟩:=h
 have e:rl 20 x=x / 4096+x%4096*1048576:=rfl
 rw[e,xB 20 _ _ (by decide) (by omega) (by omega) (by omega) (by omega) (by omega)]
 unfold fU
 omega
theorem afD (x:Int) (h:fU x):fU (rl 24 x)∧bits .or .u32 (x*16777216%4294967296) (x / 256)=rl 24 x:=by
 obtain⟨h0,h1⟩:=h
 have e:rl 24 x=x / 256+x%256*16777216:=rfl
 rw[e,xB 24 _ _ (by decide) (by omega) (by omega) (by omega) (by omega) (by omega)]
 unfold fU
 omega
theorem afE (x:Int) (h:fU x):fU (rl 25 x)∧bits .or .u32 (x*33554432%4294967296) (x / 128)=rl 25 x:=by
 obtain⟨h0,h1⟩:=h
 have e:rl 25 x=x / 128+x%128*33554432:=rfl
 rw[e,xB 25 _ _ (by decide) (by omega) (by omega) (by omega) (by omega) (by omega)]
 unfold fU
 omega
def gA1 (a b x:Int):Int:=ad3 a b x
def gD1 (a b d x:Int):Int:=rl 16 (xr d (gA1 a b x))
def gC1 (a b c d x:Int):Int:=ad c (gD1 a b d x)
def gB1 (a b c d x:Int):Int:=rl 20 (xr b (gC1 a b c d x))
def gA (a b c d x y:Int):Int:=ad3 (gA1 a b x) (gB1 a b c d x) y
def gD (a b c d x y:Int):Int:=rl 24 (xr (gD1 a b d x) (gA a b c d x y))
def gC (a b c d x y:Int):Int:=ad (gC1 a b c d x) (gD a b c d x y)
def gB (a b c d x y:Int):Int:=rl 25 (xr (gB1 a b c d x) (gC a b c d x y))
theorem aeH (a b c d x y:Int):fU (gA a b c d x y):=abY _ _ _
theorem aeK (a b c d x y:Int):fU (gD a b c d x y):=(afD _ (iR _ _)).1
theorem aeJ (a b c d x y:Int):fU (gC a b c d x y):=WN _ _
theorem aeI (a b c d x y:Int):fU (gB a b c d x y):=(afE _ (iR _ _)).1
def rA (l:List Int) (a b c d:Nat) (x y:Int):List Int:=
 put4 l a b c d (gA (aK l a) (aK l b) (aK l c) (aK l d) x y) (gB (aK l a) (aK l b) (aK l c) (aK l d) x y) (gC (aK l a) (aK l b) (aK l c) (aK l d) x y) (gD (aK l a) (aK l b) (aK l c) (aK l d) x y)
def FM (r:Nat):List Nat:=
 match r with
 | 0=>[0,1,2,3,4,5,6,7,8,9,10,11,12,13,14,15]
 | 1=>[14,10,4,8,9,15,13,6,1,12,0,2,11,7,5,3]
 | 2=>[11,8,12,0,5,2,15,13,10,14,3,6,7,1,9,4]
 | 3=>[7,9,3,1,13,12,11,14,2,6,5,10,4,0,15,8]
 | 4=>[9,0,5,7,2,4,10,15,14,1,11,12,6,8,3,13]
 | 5=>[2,12,6,10,0,11,8,3,4,13,7,5,15,14,1,9]
 | 6=>[12,5,1,15,14,13,4,10,0,7,6,3,9,2,8,11]
 | 7=>[13,11,7,14,12,1,3,9,5,0,15,4,8,6,2,10]
 | 8=>[6,15,14,9,11,3,0,8,12,2,13,7,1,4,10,5]
 | _=>[10,2,8,4,7,6,1,5,15,11,9,14,3,12,13,0]
def sg (r i:Nat):Nat:=(FM r).getD i 0
theorem SP (r i:Nat):sg r i<16:=by
 have h:∀r:Fin 10,∀i:Fin 16,sg r i<16:=by decide
 by_cases hi:i<16
 ·by_cases hr:r<9
  ·exact h ⟨r,by omega⟩ ⟨i,hi⟩
  ·have:sg r i=sg 9 i:=by
    unfold sg FM
    match r,hr with
    | 0,h=>omega
    | 1,h=>omega
    | 2,h=>omega
    | 3,h=>omega
    | 4,h=>omega
    | 5,h=>omega
    | 6,h=>omega
    | 7,h=>omega
    | 8,h=>omega
    | r+9,h=>rfl
   rw[this]
   exact h 9 ⟨i,hi⟩
 ·unfold sg
  have hl:(FM r).length=16:=by unfold FM;split<;>rfl
  rw[List.getD_eq_getElem?_getD,List.getElem?_eq_none (by omega)]
  decide
def jH (v m:List Int) (r:Nat):Nat→List Int
 | 0=>v
 | k+1=>rA (jH v m r k) (q0 k) (q1 k) (q2 k) (q3 k) (aK m (sg r (2*k))) (aK m (sg r (2*k+1)))
def cZ (v m:List Int):Nat→List Int
 | 0=>v
 | k+1=>jH (cZ v m k) m k 8
theorem GI (l:List Int) (a b c d:Nat) (x y:Int):(rA l a b c d x y).length=l.length:=by unfold rA;rw[uV]
theorem jY (v m:List Int) (r:Nat):∀k,(jH v m r k).length=v.length
 | 0=>rfl
 | k+1=>by rw[jH,GI,jY v m r k]
theorem jQ (v m:List Int):∀k,(cZ v m k).length=v.length
 | 0=>rfl
 | k+1=>by rw[cZ,jY,jQ v m k]
theorem TE {l:List Int} (h:bF l) (a b c d:Nat) (x y:Int):bF (rA l a b c d x y):=
 gV (gV (gV (gV h _ (aeH _ _ _ _ _ _)) _ (aeI _ _ _ _ _ _)) _ (aeJ _ _ _ _ _ _)) _ (aeK _ _ _ _ _ _)
theorem yL {v:List Int} (h:bF v) (m:List Int) (r:Nat):∀k,bF (jH v m r k)
 | 0=>h
 | k+1=>TE (yL h m r k) _ _ _ _ _ _
theorem sO {v:List Int} (h:bF v) (m:List Int):∀k,bF (cZ v m k)
 | 0=>h
 | k+1=>yL (sO h m k) m k 8
def lC:List Int:=[1779033703,3144134277,1013904242,2773480762,1359893119,2600822924,528734635,1541459225]
theorem XW:bF lC:=by
 intro i
 match i with
 | 0=>exact(show fU 1779033703 from⟨by decide,by decide⟩)
 | 1=>exact(show fU 3144134277 from⟨by decide,by decide⟩)
 | 2=>exact(show fU 1013904242 from⟨by decide,by decide⟩)
 | 3=>exact(show fU 2773480762 from⟨by decide,by decide⟩)
 | 4=>exact(show fU 1359893119 from⟨by decide,by decide⟩)
 | 5=>exact(show fU 2600822924 from⟨by decide,by decide⟩)
 | 6=>exact(show fU 528734635 from⟨by decide,by decide⟩)
 | 7=>exact(show fU 1541459225 from⟨by decide,by decide⟩)
 | i+8=>exact⟨by simp[lC],by simp[lC]⟩
def FY (h:List Int) (t:Nat):List Int:=(((h++lC).set 12 (xr 1359893119 (t%4294967296:Nat))).set 13 (xr 2600822924 (t / 4294967296:Nat)))
def tX (h:List Int) (t:Nat) (last:Bool):List Int:=if last then(FY h t).set 14 (xr 528734635 4294967295)else FY h t
theorem zP (h:List Int) (t:Nat) (hh:h.length=8):(FY h t).length=16:=by simp[FY,hh,lC]
theorem zQ (h:List Int) (t:Nat) (last:Bool) (hh:h.length=8):(tX h t last).length=16:=by
 unfold tX
 split
 ·rw[lJ,zP h t hh]
 ·exact zP h t hh
theorem J5 {a b:List Int} (ha:bF a) (hb:bF b):bF (a++b):=by
 intro i
 simp only[List.getD_eq_getElem?_getD,List.getElem?_append]
 split
 ·exact ha i
 ·exact hb (i - a.length)
theorem OF {h:List Int} (hh:bF h) (t:Nat):bF (FY h t):=
 gV (gV (J5 hh XW) _ (iR _ _)) _ (iR _ _)
theorem OG {h:List Int} (hh:bF h) (t:Nat) (last:Bool):bF (tX h t last):=by
 unfold tX
 split
 ·exact gV (OF hh t) _ (iR _ _)
 ·exact OF hh t
def lR (h v:List Int) (i:Nat):Int:=xr (aK h i) (xr (aK v i) (aK v (i+8)))
theorem KZ (a b:Int) (ha:fU a) (hb:fU b):xr a b=((a.toNat^^^b.toNat:Nat):Int):=by
 unfold xr
 obtain⟨x,rfl⟩:=Int.eq_ofNat_of_zero_le ha.1
 obtain⟨y,rfl⟩:=Int.eq_ofNat_of_zero_le hb.1
 have hx:x<2^32:=by have:=ha.2;omega
 have hy:y<2^32:=by have:=hb.2;omega
 have h:=Nat.xor_lt_two_pow hx hy
 have hx':x%2^IntKind.u32.bits=x:=Nat.mod_eq_of_lt hx
 have hy':y%2^IntKind.u32.bits=y:=Nat.mod_eq_of_lt hy
 simp only[bits,BitVec.ofInt_natCast,BitVec.toNat_xor,BitVec.toNat_ofNat,hx',hy',Int.toNat_natCast]
 exact xU _ (Int.natCast_nonneg _) (by exact_mod_cast h)
theorem ZA (a b c:Int) (ha:fU a) (hb:fU b) (hc:fU c):xr (xr a b) c=xr a (xr b c):=by
 rw[KZ _ c (iR _ _) hc,KZ a _ ha (iR _ _),KZ a b ha hb,KZ b c hb hc]
 simp only[Int.toNat_natCast,Nat.xor_assoc]
def jL (h m:List Int) (t:Nat) (last:Bool):List Int:=(List.range 8).map (lR h (cZ (tX h t last) m 10))
theorem qH (h m:List Int) (t:Nat) (last:Bool):(jL h m t last).length=8:=by simp[jL]
theorem FP (h m:List Int) (t:Nat) (last:Bool):bF (jL h m t last):=by
 intro i
 unfold jL
 simp only[List.getD_eq_getElem?_getD,List.getElem?_map]
 by_cases hi:i<8
 ·rw[List.getElem?_range hi]
  exact iR _ _
 ·rw[List.getElem?_eq_none (by simpa using hi)]
  exact(show fU 0 from⟨by decide,by decide⟩)
def gU (D:List Int):List Int:=(List.range 16).map (aF D)
def jE (h:List Int) (D:List Int):Nat→List Int
 | 0=>h
 | k+1=>jL (jE h D k) (gU ((D.drop (64*k)).take 64)) (64*(k+1)) false
theorem iK (h D:List Int) (hh:h.length=8):∀k,(jE h D k).length=8
 | 0=>hh
 | k+1=>qH _ _ _ _
theorem AI {h:List Int} (hh:bF h) (D:List Int):∀k,bF (jE h D k)
 | 0=>hh
 | k+1=>FP _ _ _ _
def wW (n:Nat):Nat:=(n - 1) / 64
def MK (h D:List Int):List Int:=jL (jE h D (wW D.length)) (gU (D.drop (64*wW D.length))) D.length true
def iT (n k:Nat):List Int:=lC.set 0 (xr 1779033703 (xr (xr 16842752 (k*256:Nat)) n))
theorem nF (n k:Nat):(iT n k).length=8:=by simp[iT,lC]
theorem vM (n k:Nat):bF (iT n k):=gV XW _ (iR _ _)
theorem BG (h D E:List Int):∀k,64*k≤D.length→jE h (D++E) k=jE h D k
 | 0,_=>rfl
 | k+1,hk=>by
   rw[jE,jE,BG h D E k (by omega)]
   congr 2
   rw[List.drop_append_of_le_length (by omega),List.take_append_of_le_length (by simp;omega)]
theorem ZN (a b x:Int):ad3 a b x=(a+(b+x)%4294967296)%4294967296:=by unfold ad3;omega
theorem adW (x:Int) (w:World) (h:fU x):Calls prog 156 #[.int .u32 x,.int .i64 (-16)] w fun e w'=>e=.returned (.int .u32 (rl 16 x))∧w'=w:=by
 have hr:=(afC x h).2
 have hm:bits .and .u64 (IntKind.u64.wrap (-16)) 31=16:=by kernel_rfl
 obtain⟨h0,h1⟩:=h
 go_enter func156,ntmps156
 go_wp2
 go_ret
 exact⟨rfl,rfl⟩
theorem adV (x:Int) (w:World) (h:fU x):Calls prog 156 #[.int .u32 x,.int .i64 (-12)] w fun e w'=>e=.returned (.int .u32 (rl 20 x))∧w'=w:=by
 have hr:=(agI x h).2
 have hm:bits .and .u64 (IntKind.u64.wrap (-12)) 31=20:=by kernel_rfl
 obtain⟨h0,h1⟩:=h
 go_enter func156,ntmps156
 go_wp2
 go_ret
 exact⟨rfl,rfl⟩
theorem afQ (x:Int) (w:World) (h:fU x):Calls prog 156 #[.int .u32 x,.int .i64 (-8)] w fun e w'=>e=.returned (.int .u32 (rl 24 x))∧w'=w:=by
 have hr:=(afD x h).2
 have hm:bits .and .u64 (IntKind.u64.wrap (-8)) 31=24:=by kernel_rfl
 obtain⟨h0,h1⟩:=h
 go_enter func156,ntmps156
 go_wp2
 go_ret
 exact⟨rfl,rfl⟩
theorem afP (x:Int) (w:World) (h:fU x):Calls prog 156 #[.int .u32 x,.int .i64 (-7)] w fun e w'=>e=.returned (.int .u32 (rl 25 x))∧w'=w:=by
 have hr:=(afE x h).2
 have hm:bits .and .u64 (IntKind.u64.wrap (-7)) 31=25:=by kernel_rfl
 obtain⟨h0,h1⟩:=h
 go_enter func156,ntmps156
 go_wp2
 go_ret
 exact⟨rfl,rfl⟩
set_option maxHeartbeats 1000000 in
theorem J7 (a b c d x y:Int) (w:World) (ha:fU a) (hb:fU b) (hc:fU c) (hd:fU d) (hx:fU x) (hy:fU y):
 Calls prog 143 #[.int .u32 a,.int .u32 b,.int .u32 c,.int .u32 d,.int .u32 x,.int .u32 y] w fun e w'=>e=.returned (.tuple #[.int .u32 (gA a b c d x y),.int .u32 (gB a b c d x y),.int .u32 (gC a b c d x y),.int .u32 (gD a b c d x y)])∧w'=w:=by
 go_enter func143,ntmps143
 go_wp2_with fail
 refine(adW _ _ (iR _ _)).mono ?_
 rintro e w1 ⟨rfl,rfl⟩
 go_wp2_with fail
 refine(adV _ _ (iR _ _)).mono ?_
 rintro e w1 ⟨rfl,rfl⟩
 go_wp2_with fail
 refine(afQ _ _ (iR _ _)).mono ?_
 rintro e w1 ⟨rfl,rfl⟩
 go_wp2_with fail
 refine(afP _ _ (iR _ _)).mono ?_
 rintro e w1 ⟨rfl,rfl⟩
 go_wp2_with fail
 refine bodyPost_ret (v:=.tuple #[.int .u32 _,.int .u32 _,.int .u32 _,.int .u32 _]) (by simp[results,results143,go_sem,gA,gB,gC,gD,gA1,gB1,gC1,gD1,ZN,ad]) rfl ⟨rfl,rfl⟩
theorem uO:prog.follows .mixedOrders=true:=by kernel_rfl
theorem yY:(prog.info? 177).map (·.size)=some 16:=by kernel_rfl
theorem RQ:(prog.info? 174).map (·.size)=some 8:=by kernel_rfl
theorem zZ:(prog.info? 184).map (·.size)=some 74:=by kernel_rfl
structure dR (w:World):Prop where
 mix:∀i,i<8→w.cell? ⟨2,i*4,none⟩=some (.int .u8 (q0 i))∧w.cell? ⟨2,i*4+1,none⟩=some (.int .u8 (q1 i))∧w.cell? ⟨2,i*4+2,none⟩=some (.int .u8 (q2 i))∧w.cell? ⟨2,i*4+3,none⟩=some (.int .u8 (q3 i))
 iv:∀i,i<8→w.cell? ⟨1,i,none⟩=some (.int .u32 (aK lC i))
 order:∀r i,r<10→i<16→w.cell? ⟨3,r*16+i,none⟩=some (.int .u8 (sg r i))
theorem dR.later {B:Nat} {w w':World} (h:dR w) (hb:Below B w w') (hB:w.heap.size≤B):dR w':=by
 refine⟨fun i hi=>?_,fun i hi=>?_,fun r i hr hi=>?_⟩
 ·obtain⟨t0,t1,t2,t3⟩:=h.mix i hi
  have l0:=wJ _ _ t0
  exact⟨(hb.cell (p:=⟨2,i*4,none⟩) (nJ l0 hB)).trans t0,(hb.cell (p:=⟨2,i*4+1,none⟩) (nJ l0 hB)).trans t1,(hb.cell (p:=⟨2,i*4+2,none⟩) (nJ l0 hB)).trans t2,(hb.cell (p:=⟨2,i*4+3,none⟩) (nJ l0 hB)).trans t3⟩
 ·have t:=h.iv i hi
  exact(hb.cell (p:=⟨1,i,none⟩) (nJ (wJ _ _ t) hB)).trans t
 ·have t:=h.order r i hr hi
  exact(hb.cell (p:=⟨3,r*16+i,none⟩) (nJ (wJ _ _ t) hB)).trans t
end Go.Proofs.YtgcepckaolkeoaaGreatDoor
