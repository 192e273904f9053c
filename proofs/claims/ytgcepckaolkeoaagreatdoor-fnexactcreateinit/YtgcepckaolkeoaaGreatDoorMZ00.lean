import Derived.WalkKit
import Derived.ProofKit
import Derived.WalkLawsBesides
import Derived.Deep.QuietTactic
import Derived.BigQuiet
import Derived.Laws.Rows
import Derived.StillTail
import Derived.Laws.BitsLemmas
import Derived.Laws.Bits64
namespace Go.Proofs.YtgcepckaolkeoaaGreatDoor
open Go.RowKit
open Go.World renaming size_alloc → wU
open List renaming length_append → lQ, length_map → lU, length_replicate → rJ, length_set → lJ, replicate → rQ, setIfInBounds_toArray → sU
set_option linter.unusedVariables false
def Iv (k:IntKind) (l:List Int):Array Value:=(l.map (Value.int k)).toArray
theorem aC (k:IntKind) (l:List Int):(Iv k l).size=l.length:=by simp[Iv]
theorem aH (k:IntKind) (l:List Int):(Iv k l).all (·.oneCell')=true:=by simp[Iv,Value.oneCell']
theorem cT (k:IntKind) (l:List Int) (i:Nat) (h:i<l.length):(Iv k l)[i]? =some (.int k l[i]):=by simp[Iv,h]
theorem lK (k:IntKind) (l:List Int) (i:Nat) (h:i<l.length):∃v,(Iv k l)[i]? =some v:=⟨_,cT k l i h⟩
theorem bR (k:IntKind) (l:List Int) (i:Nat) (x:Int):(Iv k l).setIfInBounds i (.int k x)=Iv k (l.set i x):=by
 unfold Iv
 rw[sU,←List.map_set]
theorem uG (l:List Int) (n k:Nat) (hl:l.length=n) (h:k<n) (z:Int):
 (l.take k++rQ (n - k) z).set k l[k]=l.take (k+1)++rQ (n - (k+1)) z:=by
 subst hl
 apply List.ext_getElem
 ·simp;omega
 ·intro i h1 h2
  simp only[lJ,lQ,List.length_take,rJ]at h1
  simp only[List.getElem_set,List.getElem_append,List.length_take,List.getElem_take,List.getElem_replicate]
  split<;>rename_i hk
  ·subst hk;rw[dif_pos (by omega)]
  ·split<;>split<;>first|rfl|omega
theorem NK (l:List Int) (n:Nat) (z:Int):l.take 0++rQ (n - 0) z=rQ n z:=by simp
theorem CH (l:List Int) (n:Nat) (hl:l.length=n) (z:Int):l.take n++rQ (n - n) z=l:=by simp[←hl]
theorem cC (w:World) (o:Obj) (i:Nat):(w.alloc o).heap[i]? =if i=w.heap.size then some o else w.heap[i]? :=by
 show(w.heap.push o)[i]? =_
 exact Array.getElem?_push
theorem aO {B:Nat} {a w:World} (h:Below B a w) (g:Nat) (hg:B≤g) (cs:Array Value):Below B a (w.setRow g cs):=by
 refine⟨h.os,h.tape,h.output,?_,?_⟩
 ·simpa using h.size
 ·intro k hk
  rw[←h.block k hk]
  simp[World.setRow,Array.getElem?_modify]
  omega
theorem cE (w:World) (g k:Nat) (cs:Array Value) (h:k≠g):(w.setRow g cs).heap[k]? =w.heap[k]? :=by
 simp[World.setRow,Array.getElem?_modify]
 omega
theorem eN (w:World) (g i:Nat) (C old:Array Value) (t:TypeId) (fr:Nat×Nat) (hg:w.heap[g]? =some (.cells old t fr)):(w.setRow g C).cell? ⟨g,i,none⟩=C[i]? :=by
 rw[cell_of_row _ _ _ _ _ _ (setRow_heap w g old C t fr hg)]
theorem aY (w:World) (g:Nat) (C:Array Value) (a:Addr) (h:a.block≠g):(w.setRow g C).cell? a=w.cell? a:=by
 unfold World.cell?
 rw[cE _ _ _ _ h]
theorem hU (w:World) (g:Nat) (C:Array Value) (a:Addr):(w.setRow g C).frozen? a=w.frozen? a:=by
 unfold World.frozen?
 by_cases h:a.block=g
 ·subst h
  simp only[World.setRow,Array.getElem?_modify,if_true]
  cases w.heap[a.block]? with
  | none=>rfl
  | some o=>cases o<;>rfl
 ·rw[cE _ _ _ _ h]
theorem aL (w:World) (g i:Nat) (C:Array Value) (v:Value):(w.setRow g C).setCell ⟨g,i,none⟩ v=w.setRow g (C.setIfInBounds i v):=by
 simp only[World.setRow,World.setCell]
 congr 1
 apply Array.ext_getElem?
 intro j
 simp only[Array.getElem?_modify]
 by_cases h:g=j
 ·subst h
  simp only[if_true]
  cases w.heap[g]? with
  | none=>rfl
  | some o=>cases o<;>rfl
 ·simp only[if_neg h]
theorem FJ (w:World) (g:Nat) (C D:Array Value):(w.setRow g C).setRow g D=w.setRow g D:=by
 simp only[World.setRow]
 congr 1
 apply Array.ext_getElem?
 intro j
 simp only[Array.getElem?_modify]
 by_cases h:g=j
 ·subst h
  simp only[if_true]
  cases w.heap[g]? with
  | none=>rfl
  | some o=>cases o<;>rfl
 ·simp only[if_neg h]
theorem gZ (w:World) (g:Nat) (C:Array Value) (t:TypeId) (fr:Nat×Nat) (hg:w.heap[g]? =some (.cells C t fr)):w.setRow g C=w:=by
 cases w with
 | mk heap tape drawn os output=>
   simp only[World.setRow]
   congr 1
   apply Array.ext_getElem?
   intro j
   simp only[Array.getElem?_modify]
   by_cases h:g=j
   ·subst h
    simp only[if_true]
    simp only at hg
    rw[hg]
    rfl
   ·simp only[if_neg h]
theorem JW (w:World) (c C:Array Value) (t:TypeId):(w.alloc (.cells c t)).setRow w.heap.size C=w.alloc (.cells C t):=by
 simp only[World.setRow,World.alloc]
 congr 1
 apply Array.ext_getElem?
 intro j
 simp only[Array.getElem?_modify,Array.getElem?_push]
 by_cases h:w.heap.size=j
 ·subst h
  simp
 ·simp only[if_neg h,if_neg (Ne.symm h)]
theorem oT (w:World) (c C:Array Value) (t:TypeId) (g:Nat) (hg:g=w.heap.size):(w.alloc (.cells c t)).setRow g C=w.alloc (.cells C t):=by
 subst hg
 exact JW w c C t
theorem uF (w:World) (g:Nat) (C:Array Value):w.drew.setRow g C=(w.setRow g C).drew:=rfl
theorem qS (w:World) (a:Addr) (d:Nat) (v:Value):(w.drewN d).setCell a v=(w.setCell a v).drewN d:=rfl
theorem U7 (k:IntKind) (a b c d e:Int):(#[Value.int k a,.int k b,.int k c,.int k d,.int k e].all (·.oneCell'))=true:=by simp[Value.oneCell']
theorem bDr {B:Nat} {a w:World} (h:Below B a w) (n:Nat):Below B a (w.drewN n):=⟨h.os,h.tape,h.output,h.size,h.block⟩
theorem oG {P:Program} {fn:Func} {R:Ending→World→Prop} {tmps:Array Value} {w:World} {p:Tmp} {ty:TypeId} {g:Nat} {t:TypeId} {cs:Array Value} {fr:Nat×Nat} {n:Nat} {e:TypeId}
 (h:fn.results=#[.cell p ty]) (hp:tmps.getD p undef=.pointer (some ⟨g,0,none⟩)) (hg:w.heap[g]? =some (.cells cs t fr))
 (hu:P.underlying ty=some (.array n e)) (hi:(P.info? ty).map (·.size)=some cs.size) (hR:R (.returned (.agg cs)) w):
 bodyPost P fn R .ret { tmps:=tmps,defers:=[] } w:=
 bodyPost_ret (v:=.agg cs) (results_cell_row h tmps w g t cs fr (.array n e) hp hg hu rfl hi) rfl hR
theorem gU {w:World} {g:Nat} {c0 c1 c2 c3 c4:Value} {t:TypeId} {fr:Nat×Nat} (h:w.heap[g]? =some (.cells #[c0,c1,c2,c3,c4] t fr)):
 w.cell? ⟨g,0,none⟩=some c0∧w.cell? ⟨g,1,none⟩=some c1∧w.cell? ⟨g,2,none⟩=some c2∧w.cell? ⟨g,3,none⟩=some c3∧w.cell? ⟨g,4,none⟩=some c4:=
 ⟨cell_of_row w g 0 _ _ _ h,cell_of_row w g 1 _ _ _ h,cell_of_row w g 2 _ _ _ h,cell_of_row w g 3 _ _ _ h,cell_of_row w g 4 _ _ _ h⟩
theorem aeA {w:World} {g:Nat} {c0 c1 c2 c3 c4:Value} {t:TypeId} (h:w.heap[g]? =some (.cells #[c0,c1,c2,c3,c4] t)) (d0 d1 d2 d3 d4:Value):
 (((((w.setCell ⟨g,0,none⟩ d0).setCell ⟨g,1,none⟩ d1).setCell ⟨g,2,none⟩ d2).setCell ⟨g,3,none⟩ d3).setCell ⟨g,4,none⟩ d4)=w.setRow g #[d0,d1,d2,d3,d4]:=by
 have e0:w.setCell ⟨g,0,none⟩ d0=w.setRow g #[d0,c1,c2,c3,c4]:=by
  rw[setCell_eq_setRow w g 0 _ t (0,0) d0 h]
  rfl
 rw[e0,aL,aL,aL,aL]
 rfl
theorem GT (k:IntKind) (n:Nat):madeCells #[Value.int k 0] n=Iv k (rQ n 0):=by
 rw[←Array.toArray_toList (xs:=madeCells #[Value.int k 0] n),toList_madeCells_one]
 simp[Iv]
theorem GU {P:Program} (t e:TypeId) (k:IntKind) (bytes n:Nat) (ht:P.underlying t=some (.slice e)) (hinfo:(P.info? e).map (fun i=>(i.zero,i.size,i.bytes))=some (some (.int k 0),1,bytes))
 (hb:bytes*n≤281474976710656) (hn:n≤9223372036854775807) (w:World):
 (Instr.makeSlice t (.int .i64 (n:Int)) (.int .i64 (n:Int))).run P w=.ok (.slice (some ⟨w.heap.size,0,none⟩) n n) (w.alloc (.cells (Iv k (rQ n 0)) e)):=by
 obtain⟨i,hi,hz,hs,hby⟩:=info_parts hinfo
 have h:=run_make (P:=P) w t e i (.int k 0) ht hi hz .i64 .i64 (n:Int) (n:Int) (by omega) (by omega) (by rw[hby,←Int.natCast_mul];omega) (by omega)
 rw[h,hs]
 simp only[Int.toNat_natCast,Nat.mul_one]
 rw[show(Value.int k 0).cells=#[Value.int k 0]from rfl,GT]
theorem kG (w:World) (o0 o1:Obj):∃W,(w.alloc o0).alloc o1=W∧W.heap[w.heap.size]? =some o0∧W.heap[w.heap.size+1]? =some o1∧W.heap.size=w.heap.size+1+1∧Below w.heap.size w W:=by
 refine⟨_,rfl,?_,?_,by simp,((Below.refl _ _).alloc (by simp) _).alloc (by simp) _⟩
 ·simp only[cC,wU];(repeat(first|rw[if_neg (by omega)]|rw[if_pos (by omega)]));try rfl
 ·simp only[cC,wU];(repeat(first|rw[if_neg (by omega)]|rw[if_pos (by omega)]));try rfl
theorem oW (w:World) (o0 o1 o2:Obj):∃W,((w.alloc o0).alloc o1).alloc o2=W∧W.heap[w.heap.size]? =some o0∧W.heap[w.heap.size+1]? =some o1∧W.heap[w.heap.size+1+1]? =some o2∧W.heap.size=w.heap.size+1+1+1∧Below w.heap.size w W:=by
 refine⟨_,rfl,?_,?_,?_,by simp,(((Below.refl _ _).alloc (by simp) _).alloc (by simp) _).alloc (by simp;omega) _⟩
 ·simp only[cC,wU];(repeat(first|rw[if_neg (by omega)]|rw[if_pos (by omega)]));try rfl
 ·simp only[cC,wU];(repeat(first|rw[if_neg (by omega)]|rw[if_pos (by omega)]));try rfl
 ·simp only[cC,wU];(repeat(first|rw[if_neg (by omega)]|rw[if_pos (by omega)]));try rfl
theorem qJ (w:World) (o0 o1 o2 o3:Obj):∃W,(((w.alloc o0).alloc o1).alloc o2).alloc o3=W∧W.heap[w.heap.size]? =some o0∧W.heap[w.heap.size+1]? =some o1∧W.heap[w.heap.size+1+1]? =some o2∧W.heap[w.heap.size+1+1+1]? =some o3∧W.heap.size=w.heap.size+1+1+1+1∧Below w.heap.size w W:=by
 refine⟨_,rfl,?_,?_,?_,?_,by simp,((((Below.refl _ _).alloc (by simp) _).alloc (by simp) _).alloc (by simp;omega) _).alloc (by simp;omega) _⟩
 ·simp only[cC,wU];(repeat(first|rw[if_neg (by omega)]|rw[if_pos (by omega)]));try rfl
 ·simp only[cC,wU];(repeat(first|rw[if_neg (by omega)]|rw[if_pos (by omega)]));try rfl
 ·simp only[cC,wU];(repeat(first|rw[if_neg (by omega)]|rw[if_pos (by omega)]));try rfl
 ·simp only[cC,wU];(repeat(first|rw[if_neg (by omega)]|rw[if_pos (by omega)]));try rfl
def aB (w:World) (g:Nat) (k:IntKind) (l:List Int) (t:TypeId):Prop:=w.heap[g]? =some (.cells (Iv k l) t)
theorem aB.lt {w:World} {g:Nat} {k:IntKind} {l:List Int} {t:TypeId} (h:aB w g k l t):g<w.heap.size:=(Array.getElem?_eq_some_iff.1 h).1
theorem aB.far {w:World} {g:Nat} {k:IntKind} {l:List Int} {t:TypeId} (h:aB w g k l t) (g':Nat) (cs:Array Value) (hne:g≠g') (d:Nat):aB ((w.setRow g' cs).drewN d) g k l t:=(cE w g' g cs hne).trans h
theorem aB.put {w:World} {g:Nat} {k:IntKind} {l:List Int} {t:TypeId} (h:aB w g k l t) (l':List Int) (d:Nat):aB ((w.setRow g (Iv k l')).drewN d) g k l' t:=setRow_heap w g _ _ _ _ h
theorem aB.setCell {w:World} {g:Nat} {k:IntKind} {l:List Int} {t:TypeId} (h:aB w g k l t) (i:Nat) (x:Int):aB (w.setCell ⟨g,i,none⟩ (.int k x)) g k (l.set i x) t:=by
 show _=_
 rw[setCell_eq_setRow w g i _ t (0,0) _ h,bR]
 exact setRow_heap _ _ _ _ _ _ h
theorem aB.setFar {w:World} {g:Nat} {k:IntKind} {l:List Int} {t:TypeId} (h:aB w g k l t) (a:Addr) (v:Value) (hne:a.block≠g):aB (w.setCell a v) g k l t:=(heap_setCell_other w a g v (fun e=>hne e.symm)).trans h
theorem aB.frozen {w:World} {g:Nat} {k:IntKind} {l:List Int} {t:TypeId} (h:aB w g k l t) (i:Nat):w.frozen? ⟨g,i,none⟩=false:=frozen_of_row _ _ _ _ _ h
theorem aB.below {w w':World} {g B:Nat} {k:IntKind} {l:List Int} {t:TypeId} (h:aB w g k l t) (hb:Below B w w') (hg:g<B):aB w' g k l t:=(hb.block g hg).trans h
theorem aB.cell {w:World} {g:Nat} {k:IntKind} {l:List Int} {t:TypeId} (h:aB w g k l t) (i:Nat) (hi:i<l.length):w.cell? ⟨g,i,none⟩=some (.int k (l.getD i 0)):=by
 rw[cell_of_row _ _ _ _ _ _ h,cT k l i hi]
 simp[hi]
theorem pQ {P:Program} {ops:Array Oper} {W:World} {Q:Act→Prop}:∀(l:List Oper) (a:Act),wpQuiet P ops (fun w'=>w'=W) Q l a→wpStill P ops W Q l a
 | [],_,h=>h
 | o::rest,a,h=>by
   unfold wpQuiet at h
   unfold wpStill
   split
   ·rename_i hw
    simp only[hw,if_true]at h
    obtain⟨v,h1,h2⟩:=h
    have h3:=h1 W rfl
    have h4:=pQ rest _ h2
    unfold Oper.quietAt at h3
    unfold Oper.still
    generalize(execOp a.eval o).run P W=r at*
    cases r with
    | ok n w'=>
      cases n<;>simp only[Oper.quietUpon]at h3<;>simp only[Oper.stillUpon]
      case value u=>obtain⟨e1,e2⟩:=h3;subst e2;exact⟨e1,h4⟩
      case skip=>obtain⟨e1,e2⟩:=h3;subst e2;exact⟨e1,h4⟩
      case enter f args=>obtain⟨e1,hc⟩:=h3;exact⟨e1,v,hc,h4⟩
    | halt x w'=>simp only[Oper.quietUpon]at h3
   ·rename_i hw
    simp only[hw]at h
    exact pQ rest _ h
theorem wRh {P:Program} {id:Nat} {Q:Exit→Act→World→Prop} {a:Act} {w:World} {l:List Oper} (n:Nat) (hm:P.follows .mixedOrders=true) (hB:Region.lexTailB .any l.toArray n=true)
 (h:wpQuiet P l.toArray (fun w'=>w'=w.drew) (fun a'=>wpList P l.toArray Q (l.drop n) a' w.drew) (l.take n) a):(Code.region id l.toArray true).wp P Q a w:=
 wp_region_still_tail n hm hB (pQ _ _ h)
theorem tO (n:Int) (h0:0≤n) (h1:n<2^64):IntKind.u64.wrap n=n:=by rw[IntKind.wrap_u64];omega
theorem wN (n:Int) (h0:0≤n) (h1:n<2^32):IntKind.u32.wrap n=n:=by rw[IntKind.wrap_u32];omega
theorem kY (x:Int) (h0:0≤x) (h1:x<18446744073709551616):bits .and .u64 x 67108863=x%67108864:=
 bits_mask .u64 64 (by decide) tO 26 (by decide) x h0 h1
theorem ad5 (i:Nat) (x y:Int) (hi:i≤64) (hx0:0≤x) (hx:x%2^i=0) (hx1:x<18446744073709551616) (hy0:0≤y) (hy:y<2^i):bits .or .u64 x y=x+y:=by
 have h64:(2:Int)^i≤2^64:=by exact_mod_cast Nat.pow_le_pow_right (n:=2) (by decide) hi
 exact bits_join .u64 64 (by decide) tO i x y hx0 hx hx1 hy0 hy (by omega)
theorem yE (i:Nat) (y x:Int) (hi:i≤64) (hx0:0≤x) (hx:x%2^i=0) (hx1:x<18446744073709551616) (hy0:0≤y) (hy:y<2^i):bits .or .u64 y x=y+x:=by
 have h64:(2:Int)^i≤2^64:=by exact_mod_cast Nat.pow_le_pow_right (n:=2) (by decide) hi
 have h:=ad5 i x y hi hx0 hx hx1 hy0 hy
 obtain⟨a,rfl⟩:=Int.eq_ofNat_of_zero_le hx0
 obtain⟨b,rfl⟩:=Int.eq_ofNat_of_zero_le hy0
 rw[(bits_nat .u64 64 (by decide) tO a b (by omega) (by omega)).2]at h
 rw[(bits_nat .u64 64 (by decide) tO b a (by omega) (by omega)).2,Nat.or_comm,h]
 omega
theorem pW (i:Nat) (y x:Int) (hi:i≤32) (hx0:0≤x) (hx:x%2^i=0) (hx1:x<4294967296) (hy0:0≤y) (hy:y<2^i):bits .or .u32 y x=y+x:=by
 have h32:(2:Int)^i≤2^32:=by exact_mod_cast Nat.pow_le_pow_right (n:=2) (by decide) hi
 have h:=bits_join .u32 32 (by decide) wN i x y hx0 hx hx1 hy0 hy (by omega)
 obtain⟨a,rfl⟩:=Int.eq_ofNat_of_zero_le hx0
 obtain⟨b,rfl⟩:=Int.eq_ofNat_of_zero_le hy0
 rw[(bits_nat .u32 32 (by decide) wN a b (by omega) (by omega)).2]at h
 rw[(bits_nat .u32 32 (by decide) wN b a (by omega) (by omega)).2,Nat.or_comm,h]
 omega
theorem vS (i:Nat) (x y:Int) (hi:i≤32) (hx0:0≤x) (hx:x%2^i=0) (hx1:x<4294967296) (hy0:0≤y) (hy:y<2^i):bits .or .u32 x y=x+y:=by
 have h32:(2:Int)^i≤2^32:=by exact_mod_cast Nat.pow_le_pow_right (n:=2) (by decide) hi
 exact bits_join .u32 32 (by decide) wN i x y hx0 hx hx1 hy0 hy (by omega)
theorem ab2 (x:Int) (h0:0≤x) (h1:x<4294967296):bits .and .u32 x 268435455=x%268435456:=
 bits_mask .u32 32 (by decide) wN 28 (by decide) x h0 h1
theorem SC (a:Nat):a&&& 268435452=4*(a / 4%67108864):=by
 have h1:(a&&& 268435452) / 2^2=(a / 2^2)&&& 67108863:=by rw[←Nat.shiftRight_eq_div_pow,Nat.shiftRight_and_distrib,←Nat.shiftRight_eq_div_pow];simp
 have h2:(a&&& 268435452)%2^2=0:=by rw[Nat.and_mod_two_pow];simp
 have h3:(a / 2^2)&&& 67108863=(a / 2^2)%67108864:=Nat.and_two_pow_sub_one_eq_mod _ 26
 rw[h3]at h1
 omega
theorem MV (x:Int) (h0:0≤x) (h1:x<4294967296):bits .and .u32 x 268435452=4*(x / 4%67108864):=by
 obtain⟨a,rfl⟩:=Int.eq_ofNat_of_zero_le h0
 have h:=(bits_nat .u32 32 (by decide) wN a 268435452 (by omega) (by decide)).1
 rw[show((268435452:Nat):Int)=268435452 from rfl]at h
 rw[h,SC]
 omega
def aF (zs:List Int) (i:Nat):Int:=zs.getD (4*i) 0+256*zs.getD (4*i+1) 0+65536*zs.getD (4*i+2) 0+16777216*zs.getD (4*i+3) 0
def aE (zs:List Int):Prop:=∀i,0≤zs.getD i 0∧zs.getD i 0≤255
theorem AI (zs:List Int) (q:Nat):aF (zs.drop (4*q)) 0=aF zs q:=by
 simp only[aF,List.getD_eq_getElem?_getD,List.getElem?_drop]
 rfl
theorem dC {zs:List Int} (h:aE zs) (k:Nat):aE (zs.drop k):=by
 intro i
 have:=h (k+i)
 simpa only[List.getD_eq_getElem?_getD,List.getElem?_drop]using this
theorem kR {zs:List Int} (h:aE zs) (i:Nat):0≤aF zs i∧aF zs i<4294967296:=by
 have h0:=h (4*i)
 have h1:=h (4*i+1)
 have h2:=h (4*i+2)
 have h3:=h (4*i+3)
 unfold aF
 omega
theorem cN (zs:List Int) (n i:Nat):(zs.take n).getD i 0=if i<n then zs.getD i 0 else 0:=by
 simp only[List.getD_eq_getElem?_getD,List.getElem?_take]
 split<;>rfl
theorem eM {zs:List Int} (h:aE zs) (n:Nat):aE (zs.take n):=by
 intro i
 have:=h i
 rw[cN]
 split
 ·exact this
 ·omega
theorem vB (zs:List Int) (n i:Nat) (h:4*i+3<n):aF (zs.take n) i=aF zs i:=by
 unfold aF
 rw[cN,cN,cN,cN,if_pos (by omega),if_pos (by omega),if_pos (by omega),if_pos (by omega)]
theorem zK (zs:List Int) (i:Nat) (h:zs.length≤4*i):aF zs i=0:=by
 unfold aF
 simp only[List.getD_eq_getElem?_getD]
 rw[List.getElem?_eq_none (by omega),List.getElem?_eq_none (by omega),List.getElem?_eq_none (by omega),List.getElem?_eq_none (by omega)]
 rfl
theorem acV (k:Nat):(2:Int)^(8*k)=256^k:=by rw[Int.pow_mul];rfl
theorem WC (z0 z1 z2 z3:Int) (h0:0≤z0) (g0:z0≤255) (h1:0≤z1) (g1:z1≤255) (h2:0≤z2) (g2:z2≤255) (h3:0≤z3) (g3:z3≤255):
 bits .or .u32 (bits .or .u32 (bits .or .u32 z0 (z1*256)) (z2*65536)) (z3*16777216)=z0+256*z1+65536*z2+16777216*z3:=by
 rw[pW 8 z0 (z1*256) (by decide) (by omega) (by omega) (by omega) (by omega) (by omega),pW 16 (z0+z1*256) (z2*65536) (by decide) (by omega) (by omega) (by omega) (by omega) (by omega),pW 24 (z0+z1*256+z2*65536) (z3*16777216) (by decide) (by omega) (by omega) (by omega) (by omega) (by omega)]
 omega
def pF9 (l:List Int) (off:Nat) (f:Nat→Int) (k:Nat):List Int:=l.take off++(List.range k).map f++l.drop (off+k)
theorem bV (l:List Int) (off:Nat) (f:Nat→Int):pF9 l off f 0=l:=by simp[pF9]
theorem aR (l:List Int) (off:Nat) (f:Nat→Int) (k:Nat) (h:off+k≤l.length):(pF9 l off f k).length=l.length:=by
 simp[pF9];omega
theorem cR (l:List Int) (off:Nat) (f:Nat→Int) (k i:Nat) (h:off+k≤l.length):(pF9 l off f k)[i]? =if off≤i∧i<off+k then some (f (i - off))else l[i]? :=by
 simp only[pF9]
 rw[List.append_assoc,List.getElem?_append]
 simp only[List.length_take,List.getElem?_append,lU,List.length_range,List.getElem?_map,List.getElem?_drop]
 by_cases h1:i<min off l.length
 ·rw[if_pos h1,if_neg (by omega),List.getElem?_take,if_pos (by omega)]
 ·rw[if_neg h1]
  by_cases h2:i - min off l.length<k
  ·rw[if_pos h2,if_pos (by omega),List.getElem?_range h2]
   simp only[Option.map_some]
   congr 2
   omega
  ·rw[if_neg h2,if_neg (by omega)]
   congr 1
   omega
theorem bJ (l:List Int) (off:Nat) (f:Nat→Int) (k:Nat) (h:off+k<l.length):(pF9 l off f k).set (off+k) (f k)=pF9 l off f (k+1):=by
 apply List.ext_getElem?
 intro i
 rw[List.getElem?_set,cR _ _ _ _ _ (by omega),cR _ _ _ _ _ (by omega),aR _ _ _ _ (by omega)]
 by_cases h1:off+k=i
 ·subst h1
  rw[if_pos rfl,if_pos (by omega),if_pos (by omega)]
  congr 2
  omega
 ·rw[if_neg h1]
  by_cases h2:off≤i∧i<off+k
  ·rw[if_pos h2,if_pos (by omega)]
  ·rw[if_neg h2,if_neg (by omega)]
theorem yJ (l:List Int) (f g:Nat→Int) (n m:Nat) (h:n+m≤l.length) (hg:∀i,i<m→g i=f (n+i)):pF9 (pF9 l 0 f n) n g m=pF9 l 0 f (n+m):=by
 apply List.ext_getElem?
 intro i
 rw[cR _ _ _ _ _ (by rw[aR _ _ _ _ (by omega)];omega),cR _ _ _ _ _ (by omega),cR _ _ _ _ _ (by omega)]
 by_cases h1:n≤i∧i<n+m
 ·rw[if_pos h1,if_pos (by omega),hg _ (by omega)]
  congr 2
  omega
 ·rw[if_neg h1]
  by_cases h2:0≤i∧i<0+n
  ·rw[if_pos h2,if_pos (by omega)]
  ·rw[if_neg h2,if_neg (by omega)]
def Car (a0 a1 a2 a3 a4 r0 r1 r2 r3 r4:Int):Prop:=
 ∃c0 c1 c2 c3 c4 t0 t1 d:Int,a0=67108864*c0+t0∧0≤t0∧t0<67108864∧a1+c0=67108864*c1+t1∧0≤t1∧t1<67108864∧
  a2+c1=67108864*c2+r2∧0≤r2∧r2<67108864∧a3+c2=67108864*c3+r3∧0≤r3∧r3<67108864∧a4+c3=67108864*c4+r4∧0≤r4∧r4<67108864∧
  t0+5*c4=67108864*d+r0∧0≤r0∧r0<67108864∧r1=t1+d
theorem ZN (a0 a1 a2 a3 a4:Int) (h0:0≤a0) (g0:a0≤576460752303423488) (h1:0≤a1) (g1:a1≤576460752303423488) (h2:0≤a2) (g2:a2≤576460752303423488) (h3:0≤a3) (g3:a3≤576460752303423488) (h4:0≤a4) (g4:a4≤576460752303423488):
 Car a0 a1 a2 a3 a4
  (bits .and .u64 (IntKind.u64.wrap (bits .and .u64 a0 67108863+5*((a4+(a3+(a2+(a1+a0 / 67108864) / 67108864) / 67108864) / 67108864) / 67108864))) 67108863)
  (IntKind.u64.wrap (bits .and .u64 (a1+a0 / 67108864) 67108863+IntKind.u64.wrap (bits .and .u64 a0 67108863+5*((a4+(a3+(a2+(a1+a0 / 67108864) / 67108864) / 67108864) / 67108864) / 67108864)) / 67108864))
  (bits .and .u64 (a2+(a1+a0 / 67108864) / 67108864) 67108863)
  (bits .and .u64 (a3+(a2+(a1+a0 / 67108864) / 67108864) / 67108864) 67108863)
  (bits .and .u64 (a4+(a3+(a2+(a1+a0 / 67108864) / 67108864) / 67108864) / 67108864) 67108863):=by
 have e0:=kY a0 h0 (by omega)
 generalize hc0:a0 / 67108864=c0
 have e1:=kY (a1+c0) (by omega) (by omega)
 generalize hc1:(a1+c0) / 67108864=c1
 have e2:=kY (a2+c1) (by omega) (by omega)
 generalize hc2:(a2+c1) / 67108864=c2
 have e3:=kY (a3+c2) (by omega) (by omega)
 generalize hc3:(a3+c2) / 67108864=c3
 have e4:=kY (a4+c3) (by omega) (by omega)
 generalize hc4:(a4+c3) / 67108864=c4
 have w0:IntKind.u64.wrap (a0%67108864+5*c4)=a0%67108864+5*c4:=tO _ (by omega) (by omega)
 have e5:=kY (a0%67108864+5*c4) (by omega) (by omega)
 have w1:IntKind.u64.wrap ((a1+c0)%67108864+(a0%67108864+5*c4) / 67108864)=(a1+c0)%67108864+(a0%67108864+5*c4) / 67108864:=tO _ (by omega) (by omega)
 rw[e0,w0,e5,e1,w1,e2,e3,e4]
 refine⟨c0,c1,c2,c3,c4,a0%67108864,(a1+c0)%67108864,(a0%67108864+5*c4) / 67108864,?_⟩
 omega
def V5 (a0 a1 a2 a3 a4:Int):Int:=a0+67108864*a1+4503599627370496*a2+302231454903657293676544*a3+20282409603651670423947251286016*a4
def oA (a0 a1 a2 a3 a4:Int):Prop:=0≤a0∧a0≤67108863∧0≤a1∧a1≤67108863∧0≤a2∧a2≤67108863∧0≤a3∧a3≤67108863∧0≤a4∧a4≤67108863
def gP:Int:=1361129467683753853853498429727072845819
theorem FX {a0 a1 a2 a3 a4 r0 r1 r2 r3 r4:Int} (h:Car a0 a1 a2 a3 a4 r0 r1 r2 r3 r4):∃q,V5 r0 r1 r2 r3 r4=V5 a0 a1 a2 a3 a4 - gP*q:=by
 obtain⟨c0,c1,c2,c3,c4,t0,t1,d,h⟩:=h
 refine⟨c4,?_⟩
 unfold V5 gP
 omega
theorem ZM {a0 a1 a2 a3 a4 r0 r1 r2 r3 r4:Int} (h:Car a0 a1 a2 a3 a4 r0 r1 r2 r3 r4) (h0:0≤a0) (g0:a0≤576460752303423488) (h1:0≤a1) (g1:a1≤576460752303423488) (h2:0≤a2) (g2:a2≤576460752303423488) (h3:0≤a3) (g3:a3≤576460752303423488) (h4:0≤a4) (g4:a4≤576460752303423488):
 0≤r0∧r0≤67108863∧0≤r1∧r1≤67109888∧0≤r2∧r2≤67108863∧0≤r3∧r3≤67108863∧0≤r4∧r4≤67108863:=by
 obtain⟨c0,c1,c2,c3,c4,t0,t1,d,h⟩:=h
 omega
theorem LN (w0 w1 w2 w3 w4:Int) (h0:0≤w0) (g0:w0<4294967296) (h1:0≤w1) (g1:w1<4294967296) (h2:0≤w2) (g2:w2<4294967296) (h3:0≤w3) (g3:w3<4294967296) (h4:0≤w4) (g4:w4≤1):
 V5 (w0%67108864) (w0 / 67108864+64*(w1%1048576)) (w1 / 1048576+4096*(w2%16384)) (w2 / 16384+262144*(w3%256)) (w3 / 256+16777216*w4)=
  w0+4294967296*w1+18446744073709551616*w2+79228162514264337593543950336*w3+340282366920938463463374607431768211456*w4∧
 oA (w0%67108864) (w0 / 67108864+64*(w1%1048576)) (w1 / 1048576+4096*(w2%16384)) (w2 / 16384+262144*(w3%256)) (w3 / 256+16777216*w4):=by
 unfold V5 oA
 omega
theorem QV {a0 a1 a2 a3 a4 r0 r1 r2 r3 r4:Int} (h:Car a0 a1 a2 a3 a4 r0 r1 r2 r3 r4) (h0:0≤a0) (g0:a0≤67108863) (h1:0≤a1) (g1:a1≤67109888) (h2:0≤a2) (g2:a2≤67108863) (h3:0≤a3) (g3:a3≤67108863) (h4:0≤a4) (g4:a4≤67108863):
 0≤r0∧r0≤67108863∧0≤r1∧r1≤67108863∧0≤r2∧r2≤67108863∧0≤r3∧r3≤67108863∧0≤r4∧r4≤67108863:=by
 obtain⟨c0,c1,c2,c3,c4,t0,t1,d,h⟩:=h
 omega
theorem OI (r0 r1 r2 r3 r4:Int) (h0:0≤r0) (g0:r0≤67108863) (h1:0≤r1) (g1:r1≤67108863) (h2:0≤r2) (g2:r2≤67108863) (h3:0≤r3) (g3:r3≤67108863) (h4:0≤r4) (g4:r4≤67108863) (c:Int)
 (hc:c=(r4+(r3+(r2+(r1+(r0+5) / 67108864) / 67108864) / 67108864) / 67108864) / 67108864):
 (0<c→V5 (bits .and .u64 (r0+5) 67108863) (bits .and .u64 (r1+(r0+5) / 67108864) 67108863) (bits .and .u64 (r2+(r1+(r0+5) / 67108864) / 67108864) 67108863)
   (bits .and .u64 (r3+(r2+(r1+(r0+5) / 67108864) / 67108864) / 67108864) 67108863) (bits .and .u64 (r4+(r3+(r2+(r1+(r0+5) / 67108864) / 67108864) / 67108864) / 67108864) 67108863)=V5 r0 r1 r2 r3 r4 - gP∧gP≤V5 r0 r1 r2 r3 r4)∧
 (¬0<c→V5 r0 r1 r2 r3 r4<gP)∧V5 r0 r1 r2 r3 r4<1361129467683753853853498429727072845824∧0≤V5 r0 r1 r2 r3 r4:=by
 rw[kY _ (by omega) (by omega),kY _ (by omega) (by omega),kY _ (by omega) (by omega),kY _ (by omega) (by omega),kY _ (by omega) (by omega)]
 generalize hc0:(r0+5) / 67108864=c0 at*
 generalize hc1:(r1+c0) / 67108864=c1 at*
 generalize hc2:(r2+c1) / 67108864=c2 at*
 generalize hc3:(r3+c2) / 67108864=c3 at*
 unfold V5 gP
 refine⟨fun h=>⟨by omega,by omega⟩,fun h=>by omega,by omega,by omega⟩
def aK (l:List Int) (i:Nat):Int:=l.getD i 0
def fP (x:Int):Prop:=0≤x∧x<4294967296
def xr (a b:Int):Int:=bits .xor .u32 a b
def ad (a b:Int):Int:=(a+b)%4294967296
def rl (n:Nat) (x:Int):Int:=x / 2^(32 - n)+x%2^(32 - n)*2^n
theorem iP (a b:Int):fP (xr a b):=by
 unfold xr fP
 rw[bits.eq_3,IntKind.wrap_u32]
 omega
theorem TL (a b:Int):fP (ad a b):=by
 unfold ad fP
 omega
theorem ac0 (x:Int) (h:fP x):fP (rl 16 x)∧bits .or .u32 (x*65536%4294967296) (x / 65536)=rl 16 x:=by
 obtain⟨h0,h1⟩:=h
 have e:rl 16 x=x / 65536+x%65536*65536:=rfl
 rw[e,vS 16 _ _ (by decide) (by omega) (by omega) (by omega) (by omega) (by omega)]
 unfold fP
 omega
theorem ad6 (x:Int) (h:fP x):fP (rl 12 x)∧bits .or .u32 (x*4096%4294967296) (x / 1048576)=rl 12 x:=by
 obtain⟨h0,h1⟩:=h
 have e:rl 12 x=x / 1048576+x%1048576*4096:=rfl
 rw[e,vS 12 _ _ (by decide) (by omega) (by omega) (by omega) (by omega) (by omega)]
 unfold fP
 omega
theorem rl8 (x:Int) (h:fP x):fP (rl 8 x)∧bits .or .u32 (x*256%4294967296) (x / 16777216)=rl 8 x:=by
 obtain⟨h0,h1⟩:=h
 have e:rl 8 x=x / 16777216+x%16777216*256:=rfl
 rw[e,vS 8 _ _ (by decide) (by omega) (by omega) (by omega) (by omega) (by omega)]
 unfold fP
 omega
theorem rl7 (x:Int) (h:fP x):fP (rl 7 x)∧bits .or .u32 (x*128%4294967296) (x / 33554432)=rl 7 x:=by
 obtain⟨h0,h1⟩:=h
 have e:rl 7 x=x / 33554432+x%33554432*128:=rfl
 rw[e,vS 7 _ _ (by decide) (by omega) (by omega) (by omega) (by omega) (by omega)]
 unfold fP
 omega
def qA (a b c d:Int):Int:=ad (ad a b) (rl 12 (xr b (ad c (rl 16 (xr d (ad a b))))))
def qD (a b c d:Int):Int:=rl 8 (xr (rl 16 (xr d (ad a b))) (qA a b c d))
def qC (a b c d:Int):Int:=ad (ad c (rl 16 (xr d (ad a b)))) (qD a b c d)
def qB (a b c d:Int):Int:=rl 7 (xr (rl 12 (xr b (ad c (rl 16 (xr d (ad a b)))))) (qC a b c d))
theorem acW (a b c d:Int):fP (qA a b c d):=TL _ _
theorem acZ (a b c d:Int):fP (qD a b c d):=(rl8 _ (iP _ _)).1
theorem acY (a b c d:Int):fP (qC a b c d):=TL _ _
theorem acX (a b c d:Int):fP (qB a b c d):=(rl7 _ (iP _ _)).1
def q0 (i:Nat):Nat:=i%4
def q1 (i:Nat):Nat:=if i<4 then i+4 else 4+(i - 4+1)%4
def q2 (i:Nat):Nat:=if i<4 then i+8 else 8+(i - 4+2)%4
def q3 (i:Nat):Nat:=if i<4 then i+12 else 12+(i - 4+3)%4
theorem YK (i:Nat) (h:i<8):q0 i<16∧q1 i<16∧q2 i<16∧q3 i<16:=by
 unfold q0 q1 q2 q3
 refine⟨by omega,?_,?_,?_⟩<;>split<;>omega
theorem YJ (i:Nat) (h:i<8):q0 i<4∧4≤q1 i∧q1 i<8∧8≤q2 i∧q2 i<12∧12≤q3 i∧q3 i<16:=by
 unfold q0 q1 q2 q3
 refine⟨by omega,?_,?_,?_,?_,?_,?_⟩<;>split<;>omega
def gX (l:List Int) (a b c d:Nat):List Int:=
 (((l.set a (qA (l.getD a 0) (l.getD b 0) (l.getD c 0) (l.getD d 0))).set b (qB (l.getD a 0) (l.getD b 0) (l.getD c 0) (l.getD d 0))).set c (qC (l.getD a 0) (l.getD b 0) (l.getD c 0) (l.getD d 0))).set d (qD (l.getD a 0) (l.getD b 0) (l.getD c 0) (l.getD d 0))
def tV (l:List Int):Nat→List Int
 | 0=>l
 | k+1=>gX (tV l k) (q0 k) (q1 k) (q2 k) (q3 k)
def bK (l:List Int):Nat→List Int
 | 0=>l
 | k+1=>tV (bK l k) 8
def kL:List Int:=[1634760805,857760878,2036477234,1797285236,0,0,0,0,0,0,0,0,0,0,0,0]
def iY (key rest:List Int):List Int:=pF9 (pF9 kL 4 (aF key) 8) 12 (aF rest) 4
theorem ID (key rest:List Int):iY key rest=[1634760805,857760878,2036477234,1797285236,aF key 0,aF key 1,aF key 2,aF key 3,aF key 4,aF key 5,aF key 6,aF key 7,aF rest 0,aF rest 1,aF rest 2,aF rest 3]:=rfl
def bC (l:List Int):Prop:=∀i,fP (l.getD i 0)
def put4 (l:List Int) (a b c d:Nat) (A B C D:Int):List Int:=(((l.set a A).set b B).set c C).set d D
theorem uA (l:List Int) (a b c d:Nat) (A B C D:Int):(put4 l a b c d A B C D).length=l.length:=by simp[put4]
theorem JP (l:List Int) {a b c d:Nat} (A B C D X:Int) (ab:a≠b) (ac:a≠c) (ad:a≠d):(put4 l a b c d A B C D).set a X=put4 l a b c d X B C D:=by
 simp only[put4]
 rw[List.set_comm _ _ (Ne.symm ad),List.set_comm _ _ (Ne.symm ac),List.set_comm _ _ (Ne.symm ab),List.set_set]
theorem JQ (l:List Int) {a b c d:Nat} (A B C D X:Int) (bc:b≠c) (bd:b≠d):(put4 l a b c d A B C D).set b X=put4 l a b c d A X C D:=by
 simp only[put4]
 rw[List.set_comm _ _ (Ne.symm bd),List.set_comm _ _ (Ne.symm bc),List.set_set]
theorem JS (l:List Int) {a b c d:Nat} (A B C D X:Int) (cd:c≠d):(put4 l a b c d A B C D).set c X=put4 l a b c d A B X D:=by
 simp only[put4]
 rw[List.set_comm _ _ (Ne.symm cd),List.set_set]
theorem JT (l:List Int) {a b c d:Nat} (A B C D X:Int):(put4 l a b c d A B C D).set d X=put4 l a b c d A B C X:=by
 simp only[put4,List.set_set]
theorem VU (l:List Int) (i:Nat):l.set i (l.getD i 0)=l:=by
 apply List.ext_getElem?
 intro j
 rw[List.getElem?_set]
 split
 ·rename_i h
  subst h
  split
  ·rename_i h
   simp[h]
  ·rename_i h
   rw[List.getElem?_eq_none (by omega)]
 ·rfl
theorem H8 (l:List Int) (a b c d:Nat):put4 l a b c d (l.getD a 0) (l.getD b 0) (l.getD c 0) (l.getD d 0)=l:=by
 simp only[put4,VU]
theorem PW (l:List Int) {a b c d:Nat} (A B C D:Int) (ha:a<l.length) (hb:b<l.length) (hc:c<l.length) (hd:d<l.length) (ab:a≠b) (ac:a≠c) (ad:a≠d) (bc:b≠c) (bd:b≠d) (cd:c≠d):
 (put4 l a b c d A B C D).getD a 0=A∧(put4 l a b c d A B C D).getD b 0=B∧(put4 l a b c d A B C D).getD c 0=C∧(put4 l a b c d A B C D).getD d 0=D:=by
 simp only[put4,List.getD_eq_getElem?_getD,List.getElem?_set,lJ]
 refine⟨?_,?_,?_,?_⟩
 ·rw[if_neg (Ne.symm ad),if_neg (Ne.symm ac),if_neg (Ne.symm ab)];simp[ha]
 ·rw[if_neg (Ne.symm bd),if_neg (Ne.symm bc)];simp[hb]
 ·rw[if_neg (Ne.symm cd)];simp[hc]
 ·simp[hd]
theorem N9 (l:List Int) (a b c d:Nat):gX l a b c d=put4 l a b c d (qA (l.getD a 0) (l.getD b 0) (l.getD c 0) (l.getD d 0)) (qB (l.getD a 0) (l.getD b 0) (l.getD c 0) (l.getD d 0)) (qC (l.getD a 0) (l.getD b 0) (l.getD c 0) (l.getD d 0)) (qD (l.getD a 0) (l.getD b 0) (l.getD c 0) (l.getD d 0)):=rfl
theorem sD (l:List Int) (a b c d:Nat):(gX l a b c d).length=l.length:=by simp[gX]
theorem qE (l:List Int):∀k,(tV l k).length=l.length
 | 0=>rfl
 | k+1=>by rw[tV,sD,qE l k]
theorem gF (l:List Int):∀k,(bK l k).length=l.length
 | 0=>rfl
 | k+1=>by rw[bK,qE,gF l k]
theorem gR {l:List Int} (h:bC l) (i:Nat) {x:Int} (hx:fP x):bC (l.set i x):=by
 intro j
 simp only[List.getD_eq_getElem?_getD,List.getElem?_set]
 split
 ·split
  ·exact hx
  ·exact⟨by decide,by decide⟩
 ·exact h j
theorem jA {zs:List Int} (h:aE zs) (i:Nat):fP (aF zs i):=kR h i
theorem zP {key rest:List Int} (hk:aE key) (hr:aE rest):bC (iY key rest):=by
 rw[ID]
 intro i
 match i with
 | 0=>exact(show fP 1634760805 from⟨by decide,by decide⟩)
 | 1=>exact(show fP 857760878 from⟨by decide,by decide⟩)
 | 2=>exact(show fP 2036477234 from⟨by decide,by decide⟩)
 | 3=>exact(show fP 1797285236 from⟨by decide,by decide⟩)
 | 4=>exact jA hk 0
 | 5=>exact jA hk 1
 | 6=>exact jA hk 2
 | 7=>exact jA hk 3
 | 8=>exact jA hk 4
 | 9=>exact jA hk 5
 | 10=>exact jA hk 6
 | 11=>exact jA hk 7
 | 12=>exact jA hr 0
 | 13=>exact jA hr 1
 | 14=>exact jA hr 2
 | 15=>exact jA hr 3
 | i+16=>exact⟨by simp,by simp⟩
theorem U6 {l:List Int} (h:bC l) (a b c d:Nat):bC (gX l a b c d):=
 gR (gR (gR (gR h _ (acW _ _ _ _)) _ (acX _ _ _ _)) _ (acY _ _ _ _)) _ (acZ _ _ _ _)
theorem AX {l:List Int} (h:bC l):∀k,bC (tV l k)
 | 0=>h
 | k+1=>U6 (AX h k) _ _ _ _
theorem pM {l:List Int} (h:bC l):∀k,bC (bK l k)
 | 0=>h
 | k+1=>AX (pM h k) 8
end Go.Proofs.YtgcepckaolkeoaaGreatDoor
