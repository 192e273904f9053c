import Derived.Test.YtgcepckaolkeoaaGreatDoorMZ29
namespace Go.Proofs.YtgcepckaolkeoaaGreatDoor
open Go.RowKit
open Go.RowKit Go.Lib
open Go.Proofs.Tryz
open Go renaming heap_alloc_new → hAN, wpList_load_row → wpLr, wpQuiet_nil → wqN
open Go.World renaming size_alloc → wU
open List renaming drop_succ_cons → dJ, drop_zero → dY, length_set → lJ, mem_cons_of_mem → mC, mem_cons_self → mQ, mem_singleton → mU, not_mem_nil → nY, take_succ_cons → tU, take_zero → tJ
open Nat renaming le_refl → nQ
set_option linter.unusedVariables false
theorem bT.plus {a b:List Int} {x y:Int} (ha:bT a x) (hb:bT b y):bT (rF a b) (x+y):=by
 obtain⟨k,q,hq⟩:=LY a b ha.1 hb.1
 obtain⟨_,qa,ea⟩:=ha
 obtain⟨_,qb,eb⟩:=hb
 refine⟨k,q+qa+qb,?_⟩
 rw[hq,ea,eb]
 grind
theorem bT.minus {a b:List Int} {x y:Int} (ha:bT a x) (hb:bT b y):bT (mW a b) (x - y):=by
 obtain⟨k,q,hq⟩:=GV a b ha.1 hb.1
 obtain⟨_,qa,ea⟩:=ha
 obtain⟨_,qb,eb⟩:=hb
 refine⟨k,q+qa - qb,?_⟩
 rw[hq,ea,eb]
 grind
def kK (l:List Int) (n:Int):Prop:=Dg l∧∃q,dN l=n - q*pF
theorem kK.mul {a b:List Int} {x y:Int} (ha:kK a x) (hb:kK b y):kK (fH a b) (x*y):=by
 obtain⟨k,q,hq⟩:=yC a b ha.1 hb.1
 obtain⟨_,qa,ea⟩:=ha
 obtain⟨_,qb,eb⟩:=hb
 refine⟨k,q+(qa*y+qb*x - qa*qb*pF),?_⟩
 rw[hq,ea,eb]
 grind
theorem PX (f:Nat→Int) (h:∀i,i<16→0≤f i∧f i≤70368744177664):Su (pF9 (aA 16) 0 f 16):=by
 have hz:(aA 16).length=16:=rfl
 refine⟨by rw[aR _ _ _ _ (by rw[hz];decide),hz],fun i=>?_⟩
 rw[List.getD_eq_getElem?_getD,cR _ _ _ _ _ (by rw[hz];decide)]
 split
 ·simp only[Option.getD_some,Nat.sub_zero]
  exact h i (by omega)
 ·rw[List.getElem?_eq_none (by rw[hz];omega)]
  simp
theorem kK.car {t:List Int} {x:Int} (ht:Su t) (hx:∃q,dN t=x - q*pF):kK (qT t) x:=by
 obtain⟨k,q,hq⟩:=rP t ht
 obtain⟨q2,h2⟩:=hx
 refine⟨k,q+q2,?_⟩
 rw[hq,h2]
 grind
def zO (a b:List Int) (k:Nat):Int:=a.getD k 0+b.getD k 0
def IQ (a b:List Int):List Int:=pF9 (aA 16) 0 (zO a b) 16
def nG (a b:List Int):List Int:=qT (IQ a b)
theorem IR (a b:List Int) (ha:Dg a) (hb:Dg b):Su (IQ a b):=PX _ fun i _=>by
 have h1:=ha.2 i
 have h2:=hb.2 i
 unfold zO
 omega
theorem TN (a b:List Int) (ha:a.length=16) (hb:b.length=16):dN (IQ a b)=dN a+dN b:=by
 obtain⟨a0,a1,a2,a3,a4,a5,a6,a7,a8,a9,a10,a11,a12,a13,a14,a15,rfl⟩:=gI a ha
 obtain⟨b0,b1,b2,b3,b4,b5,b6,b7,b8,b9,b10,b11,b12,b13,b14,b15,rfl⟩:=gI b hb
 have e:IQ [a0,a1,a2,a3,a4,a5,a6,a7,a8,a9,a10,a11,a12,a13,a14,a15] [b0,b1,b2,b3,b4,b5,b6,b7,b8,b9,b10,b11,b12,b13,b14,b15]=[a0+b0,a1+b1,a2+b2,a3+b3,a4+b4,a5+b5,a6+b6,a7+b7,a8+b8,a9+b9,a10+b10,a11+b11,a12+b12,a13+b13,a14+b14,a15+b15]:=rfl
 rw[e]
 simp only[dN]
 omega
theorem kK.add {a b:List Int} {x y:Int} (ha:kK a x) (hb:kK b y):kK (nG a b) (x+y):=by
 refine kK.car (IR a b ha.1 hb.1) ?_
 obtain⟨h1,qa,ea⟩:=ha
 obtain⟨h2,qb,eb⟩:=hb
 refine⟨qa+qb,?_⟩
 rw[TN a b h1.1 h2.1,ea,eb]
 grind
def jT (a b:List Int) (k:Nat):Int:=a.getD k 0+131070 - b.getD k 0
def DX (a b:List Int):List Int:=(pF9 (aA 16) 0 (jT a b) 16).set 0 (jT a b 0 - 74)
def nN (a b:List Int):List Int:=qT (DX a b)
theorem J4 (a b:List Int) (ha:Dg a) (hb:Dg b):Su (DX a b):=by
 have hin:∀i,65535≤jT a b i∧jT a b i≤70368744177664:=fun i=>by
  have h1:=ha.2 i
  have h2:=hb.2 i
  unfold jT
  omega
 have h:=PX (jT a b) fun i _=>by have:=hin i;omega
 refine⟨by unfold DX;rw[lJ];exact h.1,fun i=>?_⟩
 unfold DX
 rw[qZ _ _ _ _ (by rw[h.1];decide)]
 split
 ·have:=hin 0;omega
 ·exact h.2 i
theorem V6 (a b:List Int) (ha:a.length=16) (hb:b.length=16):dN (DX a b)=dN a - dN b+4*pF:=by
 obtain⟨a0,a1,a2,a3,a4,a5,a6,a7,a8,a9,a10,a11,a12,a13,a14,a15,rfl⟩:=gI a ha
 obtain⟨b0,b1,b2,b3,b4,b5,b6,b7,b8,b9,b10,b11,b12,b13,b14,b15,rfl⟩:=gI b hb
 have e:DX [a0,a1,a2,a3,a4,a5,a6,a7,a8,a9,a10,a11,a12,a13,a14,a15] [b0,b1,b2,b3,b4,b5,b6,b7,b8,b9,b10,b11,b12,b13,b14,b15]=[a0+131070 - b0 - 74,a1+131070 - b1,a2+131070 - b2,a3+131070 - b3,a4+131070 - b4,a5+131070 - b5,a6+131070 - b6,a7+131070 - b7,a8+131070 - b8,a9+131070 - b9,a10+131070 - b10,a11+131070 - b11,a12+131070 - b12,a13+131070 - b13,a14+131070 - b14,a15+131070 - b15]:=rfl
 rw[e]
 simp only[dN]
 unfold pF
 omega
theorem kK.sub {a b:List Int} {x y:Int} (ha:kK a x) (hb:kK b y):kK (nN a b) (x - y):=by
 refine kK.car (J4 a b ha.1 hb.1) ?_
 obtain⟨h1,qa,ea⟩:=ha
 obtain⟨h2,qb,eb⟩:=hb
 refine⟨qa - qb - 4,?_⟩
 rw[V6 a b h1.1 h2.1,ea,eb]
 grind
def iG (n:Int):List Int:=n::aA 15
theorem kK.small (n:Int) (h:0≤n∧n≤65535):kK (iG n) n:=by
 refine⟨⟨rfl,fun i=>?_⟩,0,?_⟩
 ·match i with
  | 0=>exact h
  | i+1=>
    show 0≤(aA 15).getD i 0∧(aA 15).getD i 0≤65535
    have h0:(aA 15).getD i 0=0:=by
     unfold aA
     rw[List.getD_eq_getElem?_getD,List.getElem?_replicate]
     split<;>rfl
    rw[h0]
    decide
 ·have h0:dN (aA 15)=0:=by decide
  rw[iG,dN,h0]
  omega
def xP (a b:List Int) (k:Nat):Int:=a.getD k 0+121665*b.getD k 0
def AN (a b:List Int):List Int:=pF9 (aA 16) 0 (xP a b) 16
theorem I5 (a b:List Int) (ha:Dg a) (hb:Dg b):Su (AN a b):=PX _ fun i _=>by
 have h1:=ha.2 i
 have h2:=hb.2 i
 unfold xP
 omega
theorem UF (a b:List Int) (ha:a.length=16) (hb:b.length=16):dN (AN a b)=dN a+121665*dN b:=by
 obtain⟨a0,a1,a2,a3,a4,a5,a6,a7,a8,a9,a10,a11,a12,a13,a14,a15,rfl⟩:=gI a ha
 obtain⟨b0,b1,b2,b3,b4,b5,b6,b7,b8,b9,b10,b11,b12,b13,b14,b15,rfl⟩:=gI b hb
 have e:AN [a0,a1,a2,a3,a4,a5,a6,a7,a8,a9,a10,a11,a12,a13,a14,a15] [b0,b1,b2,b3,b4,b5,b6,b7,b8,b9,b10,b11,b12,b13,b14,b15]=[a0+121665*b0,a1+121665*b1,a2+121665*b2,a3+121665*b3,a4+121665*b4,a5+121665*b5,a6+121665*b6,a7+121665*b7,a8+121665*b8,a9+121665*b9,a10+121665*b10,a11+121665*b11,a12+121665*b12,a13+121665*b13,a14+121665*b14,a15+121665*b15]:=rfl
 rw[e]
 simp only[dN]
 omega
theorem kK.dub {a b:List Int} {x y:Int} (ha:kK a x) (hb:kK b y):kK (qT (AN a b)) (x+121665*y):=by
 refine kK.car (I5 a b ha.1 hb.1) ?_
 obtain⟨h1,qa,ea⟩:=ha
 obtain⟨h2,qb,eb⟩:=hb
 refine⟨qa+121665*qb,?_⟩
 rw[UF a b h1.1 h2.1,ea,eb]
 grind
def dblX (x z:Int):Int:=(x+z)*(x+z)*((x - z)*(x - z))
def dblE (x z:Int):Int:=(x+z)*(x+z) - (x - z)*(x - z)
def dblZ (x z:Int):Int:=dblE x z*((x+z)*(x+z)+121665*dblE x z)
def sumX (x z x' z':Int):Int:=((x' - z')*(x+z)+(x'+z')*(x - z))*((x' - z')*(x+z)+(x'+z')*(x - z))
def sumZ (x z x' z' u:Int):Int:=u*(((x' - z')*(x+z) - (x'+z')*(x - z))*((x' - z')*(x+z) - (x'+z')*(x - z)))
theorem SY (x z x' z':Int):sumX x z x' z'=sumX x' z' x z:=by unfold sumX;grind
theorem SZ (x z x' z' u:Int):sumZ x z x' z' u=sumZ x' z' x z u:=by unfold sumZ;grind
structure MS where
 x1:Int
 z1:Int
 x2:Int
 z2:Int
def mJ (bit:Nat→Bool) (u:Int):Nat→MS
 | 0=>⟨1,0,u,1⟩
 | m+1=>
   let s:=mJ bit u m
   if bit (254 - m)then⟨sumX s.x1 s.z1 s.x2 s.z2,sumZ s.x1 s.z1 s.x2 s.z2 u,dblX s.x2 s.z2,dblZ s.x2 s.z2⟩
   else⟨dblX s.x1 s.z1,dblZ s.x1 s.z1,sumX s.x1 s.z1 s.x2 s.z2,sumZ s.x1 s.z1 s.x2 s.z2 u⟩
def AR (a:Int):Nat→Int
 | 0=>1
 | m+1=>if 254 - m=2∨254 - m=4 then AR a m*AR a m else AR a m*AR a m*a
theorem NT:(prog.info? 108).map (·.size)=some 16:=by kernel_rfl
theorem xX:(prog.info? 107).map (·.size)=some 16:=by kernel_rfl
theorem sR:∀W,(zeroValue 108).run prog W=.ok (.agg (Iv .i64 (aA 16))) W:=(zero_of_info (n:=16) (by kernel_rfl)).1
theorem AZ:∀W,(zeroValue 107).run prog W=.ok (.agg (Iv .i64 (aA 16))) W:=(zero_of_info (n:=16) (by kernel_rfl)).1
theorem aU {l:List Int} (h:l.length=16):(prog.info? 108).map (·.size)=some (Iv .i64 l).size:=by rw[aC,h];exact NT
theorem xY {l:List Int} (h:l.length=16):(prog.info? 107).map (·.size)=some (Iv .i64 l).size:=by rw[aC,h];exact xX
theorem eT {l:List Int} (h:l.length=16):(Iv .i64 (aA 16)).size=(Iv .i64 l).size:=by rw[aC,aC,h];rfl
theorem wW (l:List Int) (f:Nat→Int) (k:Nat) (h:k<l.length):(pF9 l 0 f k).getD k 0=l.getD k 0:=by
 rw[List.getD_eq_getElem?_getD,cR l 0 f k k (by omega),if_neg (by omega),List.getD_eq_getElem?_getD]
theorem dD (l:List Int) (f:Nat→Int) (k:Nat) (h:k≤l.length):(pF9 l 0 f k).length=l.length:=aR l 0 f k (by omega)
set_option maxHeartbeats 4000000 in
theorem rS (t:List Int) (h:Su t) (w:World):
 Calls prog 80 #[.agg (Iv .i64 t)] w fun e w'=>e=.returned (.agg (Iv .i64 (qT t)))∧Below w.heap.size w w':=by
 have hzl:=sR
 have HI:Hid (∀p,Su (x9 t p)):=h.iter
 have F0:Hid (Rw w [(w.heap.size,Iv .i64 (x9 t 0),107),(w.heap.size+1,Iv .i64 (aA 16),108)] ((w.alloc (.cells (Iv .i64 t) 107)).alloc (.cells (Iv .i64 (aA 16)) 108))):=by
  have h:=((Rw.start w).alloc (Iv .i64 t) 107).alloc (Iv .i64 (aA 16)) 108
  simp only[wU]at h
  exact h.sub (fun r hr=>by simp only[List.mem_cons,nY,or_false]at hr⊢;exact hr.symm)
 have HR:Hid (x9 t 3=qT t):=rfl
 have hRl:Hid ((qT t).length=16):=(HI.out 3).1
 clear h
 go_enter func80,ntmps80
 go_wp2_with fail
 go_loopw [3] (fun i wr=>∃p:Nat,p≤3∧i=.int .i64 p∧Rw w [(w.heap.size,Iv .i64 (x9 t p),107),(w.heap.size+1,Iv .i64 (aA 16),108)] wr) (fun i _=>3 - (intOf i).toNat)
 case atStart=>exact⟨0,Nat.zero_le _,rfl,F0.out⟩
 case round=>
  obtain⟨p,hp3,rfl,hF⟩:=hrel
  have F1:Hid _:=hF
  clear hF F0
  by_cases hp:p<3
  ·have hpi:(p:Int)<3:=by omega
   obtain⟨V,eV⟩:∃x,x=wr:=⟨_,rfl⟩
   subst eV
   obtain⟨u,eu⟩:∃x,x9 t p=x:=⟨_,rfl⟩
   have HU:Hid (Su u):=by rw[←eu];exact HI.out p
   have HP:Hid (x9 t (p+1)=eP u):=by show eP (x9 t p)=_;rw[eu]
   rw[eu]at F1
   clear eu
   go_wp2_with fail
   go_loopw [4,10] (fun c i wr=>∃k:Nat,k≤16∧i=.int .i64 k∧c=.int .i64 (gK u k)∧Rw w [(w.heap.size,Iv .i64 (pF9 u 0 (jZ u) k),107),(w.heap.size+1,Iv .i64 (aA 16),108)] wr) (fun _ i _=>16 - (intOf i).toNat)
   case atStart=>exact⟨0,Nat.zero_le _,rfl,rfl,by rw[bV];exact F1.out⟩
   case round=>
    obtain⟨k,hk16,rfl,rfl,hF⟩:=hrel
    have F2:Hid _:=hF
    clear hF F1
    have hul:u.length=16:=HU.out.1
    have HUL:Hid _:=hul
    clear hul
    have hck:=M9 u HU.out.2 k
    by_cases hk:k<16
    ·have hki:(k:Int)<16:=by omega
     have hz:=HU.out.2 k
     have hc:wr.cell? ⟨w.heap.size,k,none⟩=some (.int .i64 (u.getD k 0)):=by
      have h1:=aB.cell (show aB wr w.heap.size .i64 _ _ from(F2.out.row _ mQ).2.2) k (by rw[dD _ _ _ (by have:=HUL.out;omega),HUL.out];exact hk)
      rw[wW u _ k (by have:=HUL.out;omega)]at h1
      exact h1
     have hf:wr.frozen? ⟨w.heap.size,k,none⟩=false:=frozen_of_row _ _ _ _ _ (F2.out.row _ mQ).2.2
     have HC1:Hid (gK u (k+1)=(gK u k+u.getD k 0) / 65536):=xJ u k
     have HS:Hid (∀d,d=jZ u k→(pF9 u 0 (jZ u) k).set k d=pF9 u 0 (jZ u) (k+1)):=fun d hd=>by
      subst hd
      have h1:=bJ u 0 (jZ u) k (by have:=HUL.out;omega)
      rw[Nat.zero_add]at h1
      exact h1
     have HD:Hid (jZ u k=(gK u k+u.getD k 0)%65536):=rfl
     generalize u.getD k 0=z at*
     generalize gK u k=ck at*
     have F3:Hid (Rw w [(w.heap.size,Iv .i64 (pF9 u 0 (jZ u) (k+1)),107),(w.heap.size+1,Iv .i64 (aA 16),108)] (wr.setCell ⟨w.heap.size,k,none⟩ (.int .i64 ((ck+z)%65536)))):=by
      have hP:=fK (F2.out.row _ mQ).2.2 k (.int .i64 ((ck+z)%65536))
      simp only at hP
      rw[bR,HS.out _ HD.out.symm]at hP
      exact Rw.put F2.out hP (fun r hr=>by rw[mU.1 hr];show w.heap.size+1≠w.heap.size;omega)
     go_wp2
     go_roundw
     case rel=>exact⟨k+1,by omega,by go_num,by rw[HC1.out],F3.out⟩
     case measure=>simp[intOf];omega
    ·obtain rfl:k=16:=by omega
     obtain⟨Y,eY⟩:∃x,x=wr:=⟨_,rfl⟩
     subst eY
     have hc0:Y.cell? ⟨w.heap.size,0,none⟩=some (.int .i64 (jZ u 0)):=by
      have h1:=aB.cell (show aB Y w.heap.size .i64 _ _ from(F2.out.row _ mQ).2.2) 0 (by rw[dD _ _ _ (by have:=HUL.out;omega),HUL.out];decide)
      have h2:(pF9 u 0 (jZ u) 16).getD 0 0=jZ u 0:=by rw[List.getD_eq_getElem?_getD,cR u 0 (jZ u) 16 0 (by have:=HUL.out;omega),if_pos (by omega)];rfl
      rw[h2]at h1
      exact h1
     have hf:Y.frozen? ⟨w.heap.size,0,none⟩=false:=frozen_of_row _ _ _ _ _ (F2.out.row _ mQ).2.2
     have hd0:=dG u 0
     have F3:Hid (Rw w [(w.heap.size,Iv .i64 (eP u),107),(w.heap.size+1,Iv .i64 (aA 16),108)] (Y.setCell ⟨w.heap.size,0,none⟩ (.int .i64 (jZ u 0+38*gK u 16)))):=by
      have hP:=fK (F2.out.row _ mQ).2.2 0 (.int .i64 (jZ u 0+38*gK u 16))
      simp only at hP
      rw[bR]at hP
      exact Rw.put F2.out hP (fun r hr=>by rw[mU.1 hr];show w.heap.size+1≠w.heap.size;omega)
     rw[←HP.out]at F3
     generalize gK u 16=c16 at*
     generalize jZ u 0=d0 at*
     clear F2
     go_wp2
     go_roundw
     case rel=>exact⟨p+1,by omega,by go_num,F3.out⟩
     case measure=>simp[intOf];omega
  ·obtain rfl:p=3:=by omega
   have HA:Hid _:=(F1.out.row _ mQ).2.2
   rw[HR.out]at HA
   have HZ:Hid _:=(F1.out.row _ (mC _ mQ)).2.2
   go_wp2_with(first
    | refine wpLr rfl 107 _ rfl w.heap.size rfl _ (Iv .i64 (qT t)) _ _ HA.out underlying107 rfl (xY hRl.out) ?_
    | refine wpPr rfl 108 _ _ rfl (w.heap.size+1) (Iv .i64 (qT t)) rfl rfl _ _ HZ.out (aU hRl.out) (eT hRl.out) (aH _ _) (fun W9 hP=>sH ?_))
   refine aG ?_
   have B9:=hP.below _ _ F1.out.bel (by omega)
   have G9:=hP.here
   go_wp2
   exact bodyPost_ret (v:=.agg (Iv .i64 (qT t))) (results_cell_row rfl _ _ _ _ (Iv .i64 (qT t)) _ _ rfl G9 underlying108 rfl (aU hRl.out)) rfl ⟨rfl,B9⟩
def uB (b:List Int) (k:Nat):Int:=b.getD (2*k) 0+256*b.getD (2*k+1) 0
def nP (b:List Int):List Int:=pF9 (aA 16) 0 (uB b) 16
theorem ME (b:List Int) (h:b.length=32) (hb:aE b):Dg (nP b)∧dN (nP b)=nB b:=by
 have hz:(aA 16).length=16:=rfl
 refine⟨⟨by unfold nP;rw[aR _ _ _ _ (by rw[hz];decide),hz],fun i=>?_⟩,?_⟩
 ·unfold nP
  rw[List.getD_eq_getElem?_getD,cR _ _ _ _ _ (by rw[hz];decide)]
  split
  ·simp only[Option.getD_some,Nat.sub_zero]
   have h1:=hb (2*i)
   have h2:=hb (2*i+1)
   unfold uB
   omega
  ·rw[List.getElem?_eq_none (by rw[hz];omega)]
   simp
 ·match b,h with
  | [a0,a1,a2,a3,a4,a5,a6,a7,a8,a9,a10,a11,a12,a13,a14,a15,a16,a17,a18,a19,a20,a21,a22,a23,a24,a25,a26,a27,a28,a29,a30,a31],_=>
    have e:nP [a0,a1,a2,a3,a4,a5,a6,a7,a8,a9,a10,a11,a12,a13,a14,a15,a16,a17,a18,a19,a20,a21,a22,a23,a24,a25,a26,a27,a28,a29,a30,a31]=[a0+256*a1,a2+256*a3,a4+256*a5,a6+256*a7,a8+256*a9,a10+256*a11,a12+256*a13,a14+256*a15,a16+256*a17,a18+256*a19,a20+256*a21,a22+256*a23,a24+256*a25,a26+256*a27,a28+256*a29,a30+256*a31]:=rfl
    rw[e]
    simp only[dN,nB]
    omega
set_option maxHeartbeats 4000000 in
theorem VG (b:List Int) (hb:b.length=32) (hbb:aE b) (w:World):
 Calls prog 55 #[.agg (Iv .u8 b)] w fun e w'=>e=.returned (.agg (Iv .i64 (nP b)))∧Below w.heap.size w w':=by
 have hzl:=sR
 have HRl:Hid ((nP b).length=16):=(ME b hb hbb).1.1
 have HBL:Hid _:=hb
 have HBB:Hid (aE b):=hbb
 have hz0:Hid ((aA 16).length=16):=rfl
 clear hb hbb
 obtain⟨W,hW,g0,g1,g2,hsz,hB⟩:=oW w (.cells (Iv .u8 b) 22) (.cells (Iv .i64 (aA 16)) 108) (.cells (Iv .i64 (aA 16)) 108)
 have F0:Hid (Rw w [(w.heap.size+1+1,Iv .i64 (aA 16),108),(w.heap.size+1,Iv .i64 (aA 16),108),(w.heap.size,Iv .u8 b,22)] W):=
  ⟨hB,fun r hr=>by
   simp only[List.mem_cons,nY,or_false]at hr
   rcases hr with rfl|rfl|rfl
   ·exact⟨by simp only;omega,by simp only;omega,g2⟩
   ·exact⟨by simp only;omega,by simp only;omega,g1⟩
   ·exact⟨by simp only;omega,by simp only;omega,g0⟩⟩
 have HW:Hid _:=hW
 have KA:Hid ((((w.alloc (.cells (Iv .u8 b) 22)).alloc (.cells (Iv .i64 (aA 16)) 108)).alloc (.cells (Iv .i64 (aA 16)) 108)).heap[w.heap.size+1+1]? =some (.cells (Iv .i64 (aA 16)) 108)):=by show _=_;rw[hW];exact g2
 clear hW g0 g1 g2 hB hsz
 go_enter func55,ntmps55
 go_wp2_with(refine wpPr rfl 108 _ _ rfl (w.heap.size+1+1) (Iv .i64 (aA 16)) rfl rfl _ _ KA.out NT rfl (aH _ _) (fun W1 hP=>sH ?_))
 refine aG ?_
 have F1:Hid (Rw w [(w.heap.size+1+1,Iv .i64 (pF9 (aA 16) 0 (uB b) 0),108),(w.heap.size+1,Iv .i64 (aA 16),108),(w.heap.size,Iv .u8 b,22)] W1):=by
  rw[HW.out]at hP
  rw[bV]
  exact Rw.put F0.out hP (fun r hr=>by simp only[List.mem_cons,nY,or_false]at hr;rcases hr with rfl|rfl<;>(simp only;omega))
 clear hP F0 KA HW
 go_wp2_with fail
 go_loopw [6] (fun i wr=>∃k:Nat,k≤16∧i=.int .i64 k∧Rw w [(w.heap.size+1+1,Iv .i64 (pF9 (aA 16) 0 (uB b) k),108),(w.heap.size+1,Iv .i64 (aA 16),108),(w.heap.size,Iv .u8 b,22)] wr) (fun i _=>16 - (intOf i).toNat)
 case atStart=>exact⟨0,Nat.zero_le _,rfl,F1.out⟩
 case round=>
  obtain⟨k,hk16,rfl,hF⟩:=hrel
  have F2:Hid _:=hF
  clear hF F1
  by_cases hk:k<16
  ·have hki:(k:Int)<16:=by omega
   have h1:=HBB.out (2*k)
   have h2:=HBB.out (2*k+1)
   have hc1:wr.drew.cell? ⟨w.heap.size,2*k,none⟩=some (.int .u8 (b.getD (2*k) 0)):=aB.cell (show aB wr w.heap.size .u8 b _ from(F2.out.row _ (mC _ (mC _ mQ))).2.2) (2*k) (by have:=HBL.out;omega)
   have hc2:wr.drew.cell? ⟨w.heap.size,2*k+1,none⟩=some (.int .u8 (b.getD (2*k+1) 0)):=aB.cell (show aB wr w.heap.size .u8 b _ from(F2.out.row _ (mC _ (mC _ mQ))).2.2) (2*k+1) (by have:=HBL.out;omega)
   obtain⟨v,hv⟩:∃v,wr.drew.cell? ⟨w.heap.size+1+1,k,none⟩=some v:=⟨_,aB.cell (show aB wr (w.heap.size+1+1) .i64 _ _ from(F2.out.row _ mQ).2.2) k (by rw[dD _ _ _ (by rw[hz0.out];exact hk16),hz0.out];exact hk)⟩
   have hf:wr.drew.frozen? ⟨w.heap.size+1+1,k,none⟩=false:=frozen_of_row _ _ _ _ _ (F2.out.row _ mQ).2.2
   have HS:Hid ((pF9 (aA 16) 0 (uB b) k).set k (b.getD (2*k) 0+256*b.getD (2*k+1) 0)=pF9 (aA 16) 0 (uB b) (k+1)):=by
    have h1:=bJ (aA 16) 0 (uB b) k (by rw[hz0.out];omega)
    rw[Nat.zero_add]at h1
    exact h1
   have F3:Hid (Rw w [(w.heap.size+1+1,Iv .i64 (pF9 (aA 16) 0 (uB b) (k+1)),108),(w.heap.size+1,Iv .i64 (aA 16),108),(w.heap.size,Iv .u8 b,22)] (wr.drew.setCell ⟨w.heap.size+1+1,k,none⟩ (.int .i64 (b.getD (2*k) 0+256*b.getD (2*k+1) 0)))):=by
    have hP:=fK (F2.out.drew.row _ mQ).2.2 k (.int .i64 (b.getD (2*k) 0+256*b.getD (2*k+1) 0))
    simp only at hP
    rw[bR,HS.out]at hP
    exact Rw.put F2.out.drew hP (fun r hr=>by simp only[List.mem_cons,nY,or_false]at hr;rcases hr with rfl|rfl<;>(simp only;omega))
   generalize b.getD (2*k) 0=z1 at*
   generalize b.getD (2*k+1) 0=z2 at*
   have hb1:((2*k:Nat):Int)=2*(k:Int):=by omega
   have hb2:((2*k+1:Nat):Int)=2*(k:Int)+1:=by omega
   clear F2
   go_wp2
   refine wRh 15 kJ (by kernel_rfl) ?_
   simp only[tU,tJ,dJ,dY]
   repeat(go_big_quiet_step (fail))
   refine wqN ?_
   go_wp2
   go_roundw
   case rel=>exact⟨k+1,by omega,by go_num,F3.out⟩
   case measure=>simp[intOf];omega
  ·obtain rfl:k=16:=by omega
   have HA:Hid (wr.heap[w.heap.size+1+1]? =some (.cells (Iv .i64 (nP b)) 108)):=(F2.out.row _ mQ).2.2
   have HZ:Hid _:=(F2.out.row _ (mC _ mQ)).2.2
   have B2:Hid _:=F2.out.bel
   clear F2
   obtain⟨R,eR⟩:∃x,nP b=x:=⟨_,rfl⟩
   rw[eR]at HA HRl
   have HE:Hid _:=eR
   clear eR
   go_wp2_with(first
    | refine wpLr rfl 108 _ rfl (w.heap.size+1+1) rfl _ (Iv .i64 R) _ _ HA.out underlying108 rfl (aU HRl.out) ?_
    | refine wpPr rfl 108 _ _ rfl (w.heap.size+1) (Iv .i64 R) rfl rfl _ _ HZ.out (aU HRl.out) (eT HRl.out) (aH _ _) (fun W9 hP=>sH ?_))
   refine aG ?_
   have B9:=hP.below _ _ B2.out (by omega)
   have G9:=hP.here
   go_wp2
   exact bodyPost_ret (v:=.agg (Iv .i64 R)) (results_cell_row rfl _ _ _ _ (Iv .i64 R) _ _ rfl G9 underlying108 rfl (aU HRl.out)) rfl ⟨by rw[HE.out],B9⟩
theorem SV (v:Int):prog.built 108 [(0,.int .i64 v)]=some (Iv .i64 (v::aA 15)):=by kernel_rfl
set_option maxHeartbeats 1000000 in
set_option maxRecDepth 10000 in
theorem zE (n:Int) (hn:0≤n∧n≤65535) (w:World):
 Calls prog 75 #[.int .i64 n] w fun e w'=>e=.returned (.agg (Iv .i64 (iG n)))∧Below w.heap.size w w':=by
 have hzl:=sR
 have hbu:=SV n
 have hl:Hid ((n::aA 15).length=16):=rfl
 have KA:Hid ((w.alloc (.cells (Iv .i64 (aA 16)) 108)).heap[w.heap.size]? =some (.cells (Iv .i64 (aA 16)) 108)):=hAN _ _
 have BA:Hid (Below w.heap.size w (w.alloc (.cells (Iv .i64 (aA 16)) 108))):=(Below.refl w.heap.size w).alloc (nQ _) _
 go_enter func75,ntmps75
 go_wp2_with(refine wpPr rfl 108 _ _ rfl w.heap.size (Iv .i64 (n::aA 15)) rfl rfl _ _ KA.out (aU hl.out) (eT hl.out) (aH _ _) (fun W9 hP=>sH ?_))
 refine aG ?_
 have B9:=hP.below _ _ BA.out (nQ _)
 have G9:=hP.here
 obtain⟨R,eR⟩:∃x,n::aA 15=x:=⟨_,rfl⟩
 have e2:Hid (iG n=R):=eR
 rw[eR]at G9 hl
 clear eR hbu hP KA BA
 go_wp2
 exact bodyPost_ret (v:=.agg (Iv .i64 R)) (results_cell_row rfl _ _ _ _ (Iv .i64 R) _ _ rfl G9 underlying108 rfl (aU hl.out)) rfl ⟨by rw[e2.out],B9⟩
set_option maxHeartbeats 4000000 in
theorem xE (a b:List Int) (ha:Dg a) (hb:Dg b) (w:World):
 Calls prog 99 #[.agg (Iv .i64 a),.agg (Iv .i64 b)] w fun e w'=>e=.returned (.agg (Iv .i64 (nG a b)))∧Below w.heap.size w w':=by
 have hzl:=sR
 have hz16:=AZ
 have HSu:Hid (Su (IQ a b)):=IR a b ha hb
 have HRl:Hid ((nG a b).length=16):=(rP _ HSu.out).1.1
 have HC:Hid (∀W,Calls prog 80 #[.agg (Iv .i64 (IQ a b))] W fun e w'=>e=.returned (.agg (Iv .i64 (nG a b)))∧Below W.heap.size W w'):=fun W=>rS _ HSu.out W
 have HA:Hid (Dg a):=ha
 have HB:Hid (Dg b):=hb
 have hz0:Hid ((aA 16).length=16):=rfl
 clear ha hb
 obtain⟨W,hW,g0,g1,g2,g3,hsz,hBe⟩:=qJ w (.cells (Iv .i64 a) 108) (.cells (Iv .i64 b) 108) (.cells (Iv .i64 (aA 16)) 108) (.cells (Iv .i64 (aA 16)) 107)
 have F0:Hid (Rw w [(w.heap.size+1+1+1,Iv .i64 (aA 16),107),(w.heap.size+1+1,Iv .i64 (aA 16),108),(w.heap.size+1,Iv .i64 b,108),(w.heap.size,Iv .i64 a,108)] W):=
  ⟨hBe,fun r hr=>by
   simp only[List.mem_cons,nY,or_false]at hr
   rcases hr with rfl|rfl|rfl|rfl
   ·exact⟨by simp only;omega,by simp only;omega,g3⟩
   ·exact⟨by simp only;omega,by simp only;omega,g2⟩
   ·exact⟨by simp only;omega,by simp only;omega,g1⟩
   ·exact⟨by simp only;omega,by simp only;omega,g0⟩⟩
 have HW:Hid _:=hW
 have KA:Hid (((((w.alloc (.cells (Iv .i64 a) 108)).alloc (.cells (Iv .i64 b) 108)).alloc (.cells (Iv .i64 (aA 16)) 108)).alloc (.cells (Iv .i64 (aA 16)) 107)).heap[w.heap.size+1+1+1]? =some (.cells (Iv .i64 (aA 16)) 107)):=by show _=_;rw[hW];exact g3
 clear hW g0 g1 g2 g3 hBe hsz
 go_enter func99,ntmps99
 go_wp2_with(refine wpPr rfl 107 _ _ rfl (w.heap.size+1+1+1) (Iv .i64 (aA 16)) rfl rfl _ _ KA.out xX rfl (aH _ _) (fun W1 hP=>sH ?_))
 refine aG ?_
 have F1:Hid (Rw w [(w.heap.size+1+1+1,Iv .i64 (pF9 (aA 16) 0 (zO a b) 0),107),(w.heap.size+1+1,Iv .i64 (aA 16),108),(w.heap.size+1,Iv .i64 b,108),(w.heap.size,Iv .i64 a,108)] W1):=by
  rw[HW.out]at hP
  rw[bV]
  exact Rw.put F0.out hP (fun r hr=>by simp only[List.mem_cons,nY,or_false]at hr;rcases hr with rfl|rfl|rfl<;>(simp only;omega))
 clear hP F0 KA HW
 go_wp2_with fail
 go_loopw [8] (fun i wr=>∃k:Nat,k≤16∧i=.int .i64 k∧Rw w [(w.heap.size+1+1+1,Iv .i64 (pF9 (aA 16) 0 (zO a b) k),107),(w.heap.size+1+1,Iv .i64 (aA 16),108),(w.heap.size+1,Iv .i64 b,108),(w.heap.size,Iv .i64 a,108)] wr) (fun i _=>16 - (intOf i).toNat)
 case atStart=>exact⟨0,Nat.zero_le _,rfl,F1.out⟩
 case round=>
  obtain⟨k,hk16,rfl,hF⟩:=hrel
  have F2:Hid _:=hF
  clear hF F1
  by_cases hk:k<16
  ·have hki:(k:Int)<16:=by omega
   have h1:=HA.out.2 k
   have h2:=HB.out.2 k
   have hc1:wr.drew.cell? ⟨w.heap.size,k,none⟩=some (.int .i64 (a.getD k 0)):=aB.cell (show aB wr w.heap.size .i64 a _ from(F2.out.row _ (mC _ (mC _ (mC _ mQ)))).2.2) k (by rw[HA.out.1];exact hk)
   have hc2:wr.drew.cell? ⟨w.heap.size+1,k,none⟩=some (.int .i64 (b.getD k 0)):=aB.cell (show aB wr (w.heap.size+1) .i64 b _ from(F2.out.row _ (mC _ (mC _ mQ))).2.2) k (by rw[HB.out.1];exact hk)
   obtain⟨v,hv⟩:∃v,wr.drew.cell? ⟨w.heap.size+1+1+1,k,none⟩=some v:=⟨_,aB.cell (show aB wr (w.heap.size+1+1+1) .i64 _ _ from(F2.out.row _ mQ).2.2) k (by rw[dD _ _ _ (by rw[hz0.out];exact hk16),hz0.out];exact hk)⟩
   have hf:wr.drew.frozen? ⟨w.heap.size+1+1+1,k,none⟩=false:=frozen_of_row _ _ _ _ _ (F2.out.row _ mQ).2.2
   have HS:Hid ((pF9 (aA 16) 0 (zO a b) k).set k (a.getD k 0+b.getD k 0)=pF9 (aA 16) 0 (zO a b) (k+1)):=by
    have h1:=bJ (aA 16) 0 (zO a b) k (by rw[hz0.out];omega)
    rw[Nat.zero_add]at h1
    exact h1
   have F3:Hid (Rw w [(w.heap.size+1+1+1,Iv .i64 (pF9 (aA 16) 0 (zO a b) (k+1)),107),(w.heap.size+1+1,Iv .i64 (aA 16),108),(w.heap.size+1,Iv .i64 b,108),(w.heap.size,Iv .i64 a,108)] (wr.drew.setCell ⟨w.heap.size+1+1+1,k,none⟩ (.int .i64 (a.getD k 0+b.getD k 0)))):=by
    have hP:=fK (F2.out.drew.row _ mQ).2.2 k (.int .i64 (a.getD k 0+b.getD k 0))
    simp only at hP
    rw[bR,HS.out]at hP
    exact Rw.put F2.out.drew hP (fun r hr=>by simp only[List.mem_cons,nY,or_false]at hr;rcases hr with rfl|rfl|rfl<;>(simp only;omega))
   generalize a.getD k 0=z1 at*
   generalize b.getD k 0=z2 at*
   clear F2
   go_wp2
   refine wRh 9 kJ (by kernel_rfl) ?_
   simp only[tU,tJ,dJ,dY]
   repeat(go_big_quiet_step (fail))
   refine wqN ?_
   go_wp2
   go_roundw
   case rel=>exact⟨k+1,by omega,by go_num,F3.out⟩
   case measure=>simp[intOf];omega
  ·obtain rfl:k=16:=by omega
   have F6:Hid (Rw w [(w.heap.size+1+1+1,Iv .i64 (IQ a b),107),(w.heap.size+1+1,Iv .i64 (aA 16),108),(w.heap.size+1,Iv .i64 b,108),(w.heap.size,Iv .i64 a,108)] wr):=F2.out
   clear F2
   have HA2:Hid _:=(F6.out.row _ mQ).2.2
   have hsl:Hid ((IQ a b).length=16):=HSu.out.1
   obtain⟨ll,ell⟩:∃x,IQ a b=x:=⟨_,rfl⟩
   rw[ell]at HA2 hsl HC
   clear HSu
   go_wp2_with(with_reducible refine aI ?_;refine wpLr rfl 107 _ rfl (w.heap.size+1+1+1) rfl _ (Iv .i64 ll) _ _ HA2.out underlying107 rfl (xY hsl.out) ?_)
   refine(HC.out _).mono ?_
   rintro e Z ⟨rfl,hb⟩
   have F8:Hid _:=F6.out.later hb (nQ _)
   have HZ:Hid _:=(F8.out.row _ (mC _ mQ)).2.2
   have B8:Hid _:=F8.out.bel
   clear hb F6 F8 HA2 HC
   obtain⟨R,eR⟩:∃x,nG a b=x:=⟨_,rfl⟩
   rw[eR]at HRl⊢
   have HE:Hid _:=eR
   clear eR ell
   go_wp2_with(refine wpPr rfl 108 _ _ rfl (w.heap.size+1+1) (Iv .i64 R) rfl rfl _ _ HZ.out (aU HRl.out) (eT HRl.out) (aH _ _) (fun W9 hP=>sH ?_))
   refine aG ?_
   have B9:=hP.below _ _ B8.out (by omega)
   have G9:=hP.here
   go_wp2
   exact bodyPost_ret (v:=.agg (Iv .i64 R)) (results_cell_row rfl _ _ _ _ (Iv .i64 R) _ _ rfl G9 underlying108 rfl (aU HRl.out)) rfl ⟨by rw[HE.out],B9⟩
end Go.Proofs.YtgcepckaolkeoaaGreatDoor
