import Derived.Test.YtgcepckaolkeoaaGreatDoorMY16
namespace Go.Proofs.YtgcepckaolkeoaaGreatDoor
open Go.RowKit
open Go.RowKit Go.Lib
open Go.Proofs.Tryz
open Go renaming heap_alloc_new → hAN, wpList_load_row → wpLr, wpQuiet_nil → wqN
open Go.World renaming size_alloc → wU
open List renaming drop_succ_cons → dJ, drop_zero → dY, length_map → lU, length_set → lJ, mem_cons_of_mem → mC, mem_cons_self → mQ, mem_singleton → mU, not_mem_nil → nY, take_succ_cons → tU, take_zero → tJ
open Nat renaming le_refl → nQ
set_option linter.unusedVariables false
theorem bU.plus {a b:List Int} {x y:Int} (ha:bU a x) (hb:bU b y):bU (sG a b) (x+y):=by
 obtain⟨k,q,hq⟩:=NS a b ha.1 hb.1
 obtain⟨_,qa,ea⟩:=ha
 obtain⟨_,qb,eb⟩:=hb
 refine⟨k,q+qa+qb,?_⟩
 rw[hq,ea,eb]
 grind
theorem bU.minus {a b:List Int} {x y:Int} (ha:bU a x) (hb:bU b y):bU (m7 a b) (x - y):=by
 obtain⟨k,q,hq⟩:=I6 a b ha.1 hb.1
 obtain⟨_,qa,ea⟩:=ha
 obtain⟨_,qb,eb⟩:=hb
 refine⟨k,q+qa - qb,?_⟩
 rw[hq,ea,eb]
 grind
def kL (l:List Int) (n:Int):Prop:=Dg l∧∃q,dN l=n - q*pF
theorem kL.mul {a b:List Int} {x y:Int} (ha:kL a x) (hb:kL b y):kL (fI a b) (x*y):=by
 obtain⟨k,q,hq⟩:=zD a b ha.1 hb.1
 obtain⟨_,qa,ea⟩:=ha
 obtain⟨_,qb,eb⟩:=hb
 refine⟨k,q+(qa*y+qb*x - qa*qb*pF),?_⟩
 rw[hq,ea,eb]
 grind
theorem SJ (f:Nat→Int) (h:∀i,i<16→0≤f i∧f i≤70368744177664):Su (pF9 (aA 16) 0 f 16):=by
 have hz:(aA 16).length=16:=rfl
 refine⟨by rw[aP _ _ _ _ (by rw[hz];decide),hz],fun i=>?_⟩
 rw[List.getD_eq_getElem?_getD,cV _ _ _ _ _ (by rw[hz];decide)]
 split
 ·simp only[Option.getD_some,Nat.sub_zero]
  exact h i (by omega)
 ·rw[List.getElem?_eq_none (by rw[hz];omega)]
  simp
theorem kL.car {t:List Int} {x:Int} (ht:Su t) (hx:∃q,dN t=x - q*pF):kL (rS t) x:=by
 obtain⟨k,q,hq⟩:=sQ t ht
 obtain⟨q2,h2⟩:=hx
 refine⟨k,q+q2,?_⟩
 rw[hq,h2]
 grind
def AO (a b:List Int) (k:Nat):Int:=a.getD k 0+b.getD k 0
def J0 (a b:List Int):List Int:=pF9 (aA 16) 0 (AO a b) 16
def nO (a b:List Int):List Int:=rS (J0 a b)
theorem J4 (a b:List Int) (ha:Dg a) (hb:Dg b):Su (J0 a b):=SJ _ fun i _=>by
 have h1:=ha.2 i
 have h2:=hb.2 i
 unfold AO
 omega
theorem WP (a b:List Int) (ha:a.length=16) (hb:b.length=16):dN (J0 a b)=dN a+dN b:=by
 obtain⟨a0,a1,a2,a3,a4,a5,a6,a7,a8,a9,a10,a11,a12,a13,a14,a15,rfl⟩:=gM a ha
 obtain⟨b0,b1,b2,b3,b4,b5,b6,b7,b8,b9,b10,b11,b12,b13,b14,b15,rfl⟩:=gM b hb
 have e:J0 [a0,a1,a2,a3,a4,a5,a6,a7,a8,a9,a10,a11,a12,a13,a14,a15] [b0,b1,b2,b3,b4,b5,b6,b7,b8,b9,b10,b11,b12,b13,b14,b15]=[a0+b0,a1+b1,a2+b2,a3+b3,a4+b4,a5+b5,a6+b6,a7+b7,a8+b8,a9+b9,a10+b10,a11+b11,a12+b12,a13+b13,a14+b14,a15+b15]:=rfl
 rw[e]
 simp only[dN]
 omega
theorem kL.add {a b:List Int} {x y:Int} (ha:kL a x) (hb:kL b y):kL (nO a b) (x+y):=by
 refine kL.car (J4 a b ha.1 hb.1) ?_
 obtain⟨h1,qa,ea⟩:=ha
 obtain⟨h2,qb,eb⟩:=hb
 refine⟨qa+qb,?_⟩
 rw[WP a b h1.1 h2.1,ea,eb]
 grind
def jT (a b:List Int) (k:Nat):Int:=a.getD k 0+131070 - b.getD k 0
def FR (a b:List Int):List Int:=(pF9 (aA 16) 0 (jT a b) 16).set 0 (jT a b 0 - 74)
def nX (a b:List Int):List Int:=rS (FR a b)
theorem LP (a b:List Int) (ha:Dg a) (hb:Dg b):Su (FR a b):=by
 have hin:∀i,65535≤jT a b i∧jT a b i≤70368744177664:=fun i=>by
  have h1:=ha.2 i
  have h2:=hb.2 i
  unfold jT
  omega
 have h:=SJ (jT a b) fun i _=>by have:=hin i;omega
 refine⟨by unfold FR;rw[lJ];exact h.1,fun i=>?_⟩
 unfold FR
 rw[rX _ _ _ _ (by rw[h.1];decide)]
 split
 ·have:=hin 0;omega
 ·exact h.2 i
theorem YY (a b:List Int) (ha:a.length=16) (hb:b.length=16):dN (FR a b)=dN a - dN b+4*pF:=by
 obtain⟨a0,a1,a2,a3,a4,a5,a6,a7,a8,a9,a10,a11,a12,a13,a14,a15,rfl⟩:=gM a ha
 obtain⟨b0,b1,b2,b3,b4,b5,b6,b7,b8,b9,b10,b11,b12,b13,b14,b15,rfl⟩:=gM b hb
 have e:FR [a0,a1,a2,a3,a4,a5,a6,a7,a8,a9,a10,a11,a12,a13,a14,a15] [b0,b1,b2,b3,b4,b5,b6,b7,b8,b9,b10,b11,b12,b13,b14,b15]=[a0+131070 - b0 - 74,a1+131070 - b1,a2+131070 - b2,a3+131070 - b3,a4+131070 - b4,a5+131070 - b5,a6+131070 - b6,a7+131070 - b7,a8+131070 - b8,a9+131070 - b9,a10+131070 - b10,a11+131070 - b11,a12+131070 - b12,a13+131070 - b13,a14+131070 - b14,a15+131070 - b15]:=rfl
 rw[e]
 simp only[dN]
 unfold pF
 omega
theorem kL.sub {a b:List Int} {x y:Int} (ha:kL a x) (hb:kL b y):kL (nX a b) (x - y):=by
 refine kL.car (LP a b ha.1 hb.1) ?_
 obtain⟨h1,qa,ea⟩:=ha
 obtain⟨h2,qb,eb⟩:=hb
 refine⟨qa - qb - 4,?_⟩
 rw[YY a b h1.1 h2.1,ea,eb]
 grind
def iJ (n:Int):List Int:=n::aA 15
theorem kL.small (n:Int) (h:0≤n∧n≤65535):kL (iJ n) n:=by
 refine⟨⟨rfl,fun i=>?_⟩,0,?_⟩
 ·match i with
  | 0=>exact h
  | i+1=>
    show 0≤(aA 15).getD i 0∧(aA 15).getD i 0≤65535
    have h0:(aA 15).getD i 0=0:=by
     unfold aA
     rw[List.getD_eq_getElem?_getD,List.getElem?_replicate]
     split<;>rfl
    rw[h0]
    decide
 ·have h0:dN (aA 15)=0:=by decide
  rw[iJ,dN,h0]
  omega
def yR (a b:List Int) (k:Nat):Int:=a.getD k 0+121665*b.getD k 0
def BX (a b:List Int):List Int:=pF9 (aA 16) 0 (yR a b) 16
theorem KJ (a b:List Int) (ha:Dg a) (hb:Dg b):Su (BX a b):=SJ _ fun i _=>by
 have h1:=ha.2 i
 have h2:=hb.2 i
 unfold yR
 omega
theorem XJ (a b:List Int) (ha:a.length=16) (hb:b.length=16):dN (BX a b)=dN a+121665*dN b:=by
 obtain⟨a0,a1,a2,a3,a4,a5,a6,a7,a8,a9,a10,a11,a12,a13,a14,a15,rfl⟩:=gM a ha
 obtain⟨b0,b1,b2,b3,b4,b5,b6,b7,b8,b9,b10,b11,b12,b13,b14,b15,rfl⟩:=gM b hb
 have e:BX [a0,a1,a2,a3,a4,a5,a6,a7,a8,a9,a10,a11,a12,a13,a14,a15] [b0,b1,b2,b3,b4,b5,b6,b7,b8,b9,b10,b11,b12,b13,b14,b15]=[a0+121665*b0,a1+121665*b1,a2+121665*b2,a3+121665*b3,a4+121665*b4,a5+121665*b5,a6+121665*b6,a7+121665*b7,a8+121665*b8,a9+121665*b9,a10+121665*b10,a11+121665*b11,a12+121665*b12,a13+121665*b13,a14+121665*b14,a15+121665*b15]:=rfl
 rw[e]
 simp only[dN]
 omega
theorem kL.dub {a b:List Int} {x y:Int} (ha:kL a x) (hb:kL b y):kL (rS (BX a b)) (x+121665*y):=by
 refine kL.car (KJ a b ha.1 hb.1) ?_
 obtain⟨h1,qa,ea⟩:=ha
 obtain⟨h2,qb,eb⟩:=hb
 refine⟨qa+121665*qb,?_⟩
 rw[XJ a b h1.1 h2.1,ea,eb]
 grind
def dblX (x z:Int):Int:=(x+z)*(x+z)*((x - z)*(x - z))
def dblE (x z:Int):Int:=(x+z)*(x+z) - (x - z)*(x - z)
def dblZ (x z:Int):Int:=dblE x z*((x+z)*(x+z)+121665*dblE x z)
def sumX (x z x' z':Int):Int:=((x' - z')*(x+z)+(x'+z')*(x - z))*((x' - z')*(x+z)+(x'+z')*(x - z))
def sumZ (x z x' z' u:Int):Int:=u*(((x' - z')*(x+z) - (x'+z')*(x - z))*((x' - z')*(x+z) - (x'+z')*(x - z)))
theorem V7 (x z x' z':Int):sumX x z x' z'=sumX x' z' x z:=by unfold sumX;grind
theorem V8 (x z x' z' u:Int):sumZ x z x' z' u=sumZ x' z' x z u:=by unfold sumZ;grind
structure OJ where
 x1:Int
 z1:Int
 x2:Int
 z2:Int
def mS (bit:Nat→Bool) (u:Int):Nat→OJ
 | 0=>⟨1,0,u,1⟩
 | m+1=>
   let s:=mS bit u m
   if bit (254 - m)then⟨sumX s.x1 s.z1 s.x2 s.z2,sumZ s.x1 s.z1 s.x2 s.z2 u,dblX s.x2 s.z2,dblZ s.x2 s.z2⟩
   else⟨dblX s.x1 s.z1,dblZ s.x1 s.z1,sumX s.x1 s.z1 s.x2 s.z2,sumZ s.x1 s.z1 s.x2 s.z2 u⟩
def CL (a:Int):Nat→Int
 | 0=>1
 | m+1=>if 254 - m=2∨254 - m=4 then CL a m*CL a m else CL a m*CL a m*a
theorem PP:(prog.info? 108).map (·.size)=some 16:=by kernel_rfl
theorem yV:(prog.info? 107).map (·.size)=some 16:=by kernel_rfl
theorem tS:∀W,(zeroValue 108).run prog W=.ok (.agg (Iv .i64 (aA 16))) W:=(zero_of_info (n:=16) (by kernel_rfl)).1
theorem DI:∀W,(zeroValue 107).run prog W=.ok (.agg (Iv .i64 (aA 16))) W:=(zero_of_info (n:=16) (by kernel_rfl)).1
theorem aT {l:List Int} (h:l.length=16):(prog.info? 108).map (·.size)=some (Iv .i64 l).size:=by rw[aD,h];exact PP
theorem yW {l:List Int} (h:l.length=16):(prog.info? 107).map (·.size)=some (Iv .i64 l).size:=by rw[aD,h];exact yV
theorem eS {l:List Int} (h:l.length=16):(Iv .i64 (aA 16)).size=(Iv .i64 l).size:=by rw[aD,aD,h];rfl
theorem yC (l:List Int) (f:Nat→Int) (k:Nat) (h:k<l.length):(pF9 l 0 f k).getD k 0=l.getD k 0:=by
 rw[List.getD_eq_getElem?_getD,cV l 0 f k k (by omega),if_neg (by omega),List.getD_eq_getElem?_getD]
theorem dC (l:List Int) (f:Nat→Int) (k:Nat) (h:k≤l.length):(pF9 l 0 f k).length=l.length:=aP l 0 f k (by omega)
set_option maxHeartbeats 4000000 in
theorem sR (t:List Int) (h:Su t) (w:World):
 Calls prog 80 #[.agg (Iv .i64 t)] w fun e w'=>e=.returned (.agg (Iv .i64 (rS t)))∧Below w.heap.size w w':=by
 have hzl:=tS
 have HI:Hid (∀p,Su (zA t p)):=h.iter
 have F0:Hid (Rw w [(w.heap.size,Iv .i64 (zA t 0),107),(w.heap.size+1,Iv .i64 (aA 16),108)] ((w.alloc (.cells (Iv .i64 t) 107)).alloc (.cells (Iv .i64 (aA 16)) 108))):=by
  have h:=((Rw.start w).alloc (Iv .i64 t) 107).alloc (Iv .i64 (aA 16)) 108
  simp only[wU]at h
  exact h.sub (fun r hr=>by simp only[List.mem_cons,nY,or_false]at hr⊢;exact hr.symm)
 have HR:Hid (zA t 3=rS t):=rfl
 have hRl:Hid ((rS t).length=16):=(HI.out 3).1
 clear h
 go_enter func80,ntmps80
 go_wp2_with fail
 go_loopw [3] (fun i wr=>∃p:Nat,p≤3∧i=.int .i64 p∧Rw w [(w.heap.size,Iv .i64 (zA t p),107),(w.heap.size+1,Iv .i64 (aA 16),108)] wr) (fun i _=>3 - (intOf i).toNat)
 case atStart=>exact⟨0,Nat.zero_le _,rfl,F0.out⟩
 case round=>
  obtain⟨p,hp3,rfl,hF⟩:=hrel
  have F1:Hid _:=hF
  clear hF F0
  by_cases hp:p<3
  ·have hpi:(p:Int)<3:=by omega
   obtain⟨V,eV⟩:∃x,x=wr:=⟨_,rfl⟩
   subst eV
   obtain⟨u,eu⟩:∃x,zA t p=x:=⟨_,rfl⟩
   have HU:Hid (Su u):=by rw[←eu];exact HI.out p
   have HP:Hid (zA t (p+1)=eP u):=by show eP (zA t p)=_;rw[eu]
   rw[eu]at F1
   clear eu
   go_wp2_with fail
   go_loopw [4,10] (fun c i wr=>∃k:Nat,k≤16∧i=.int .i64 k∧c=.int .i64 (gN u k)∧Rw w [(w.heap.size,Iv .i64 (pF9 u 0 (kA u) k),107),(w.heap.size+1,Iv .i64 (aA 16),108)] wr) (fun _ i _=>16 - (intOf i).toNat)
   case atStart=>exact⟨0,Nat.zero_le _,rfl,rfl,by rw[bZ];exact F1.out⟩
   case round=>
    obtain⟨k,hk16,rfl,rfl,hF⟩:=hrel
    have F2:Hid _:=hF
    clear hF F1
    have hul:u.length=16:=HU.out.1
    have HUL:Hid _:=hul
    clear hul
    have hck:=OW u HU.out.2 k
    by_cases hk:k<16
    ·have hki:(k:Int)<16:=by omega
     have hz:=HU.out.2 k
     have hc:wr.cell? ⟨w.heap.size,k,none⟩=some (.int .i64 (u.getD k 0)):=by
      have h1:=aC.cell (show aC wr w.heap.size .i64 _ _ from(F2.out.row _ mQ).2.2) k (by rw[dC _ _ _ (by have:=HUL.out;omega),HUL.out];exact hk)
      rw[yC u _ k (by have:=HUL.out;omega)]at h1
      exact h1
     have hf:wr.frozen? ⟨w.heap.size,k,none⟩=false:=frozen_of_row _ _ _ _ _ (F2.out.row _ mQ).2.2
     have HC1:Hid (gN u (k+1)=(gN u k+u.getD k 0) / 65536):=yN u k
     have HS:Hid (∀d,d=kA u k→(pF9 u 0 (kA u) k).set k d=pF9 u 0 (kA u) (k+1)):=fun d hd=>by
      subst hd
      have h1:=bJ u 0 (kA u) k (by have:=HUL.out;omega)
      rw[Nat.zero_add]at h1
      exact h1
     have HD:Hid (kA u k=(gN u k+u.getD k 0)%65536):=rfl
     generalize u.getD k 0=z at*
     generalize gN u k=ck at*
     have F3:Hid (Rw w [(w.heap.size,Iv .i64 (pF9 u 0 (kA u) (k+1)),107),(w.heap.size+1,Iv .i64 (aA 16),108)] (wr.setCell ⟨w.heap.size,k,none⟩ (.int .i64 ((ck+z)%65536)))):=by
      have hP:=fP (F2.out.row _ mQ).2.2 k (.int .i64 ((ck+z)%65536))
      simp only at hP
      rw[bN,HS.out _ HD.out.symm]at hP
      exact Rw.put F2.out hP (fun r hr=>by rw[mU.1 hr];show w.heap.size+1≠w.heap.size;omega)
     go_wp2
     go_roundw
     case rel=>exact⟨k+1,by omega,by go_num,by rw[HC1.out],F3.out⟩
     case measure=>simp[intOf];omega
    ·obtain rfl:k=16:=by omega
     obtain⟨Y,eY⟩:∃x,x=wr:=⟨_,rfl⟩
     subst eY
     have hc0:Y.cell? ⟨w.heap.size,0,none⟩=some (.int .i64 (kA u 0)):=by
      have h1:=aC.cell (show aC Y w.heap.size .i64 _ _ from(F2.out.row _ mQ).2.2) 0 (by rw[dC _ _ _ (by have:=HUL.out;omega),HUL.out];decide)
      have h2:(pF9 u 0 (kA u) 16).getD 0 0=kA u 0:=by rw[List.getD_eq_getElem?_getD,cV u 0 (kA u) 16 0 (by have:=HUL.out;omega),if_pos (by omega)];rfl
      rw[h2]at h1
      exact h1
     have hf:Y.frozen? ⟨w.heap.size,0,none⟩=false:=frozen_of_row _ _ _ _ _ (F2.out.row _ mQ).2.2
     have hd0:=dF u 0
     have F3:Hid (Rw w [(w.heap.size,Iv .i64 (eP u),107),(w.heap.size+1,Iv .i64 (aA 16),108)] (Y.setCell ⟨w.heap.size,0,none⟩ (.int .i64 (kA u 0+38*gN u 16)))):=by
      have hP:=fP (F2.out.row _ mQ).2.2 0 (.int .i64 (kA u 0+38*gN u 16))
      simp only at hP
      rw[bN]at hP
      exact Rw.put F2.out hP (fun r hr=>by rw[mU.1 hr];show w.heap.size+1≠w.heap.size;omega)
     rw[←HP.out]at F3
     generalize gN u 16=c16 at*
     generalize kA u 0=d0 at*
     clear F2
     go_wp2
     go_roundw
     case rel=>exact⟨p+1,by omega,by go_num,F3.out⟩
     case measure=>simp[intOf];omega
  ·obtain rfl:p=3:=by omega
   have HA:Hid _:=(F1.out.row _ mQ).2.2
   rw[HR.out]at HA
   have HZ:Hid _:=(F1.out.row _ (mC _ mQ)).2.2
   go_wp2_with(first
    | refine wpLr rfl 107 _ rfl w.heap.size rfl _ (Iv .i64 (rS t)) _ _ HA.out underlying107 rfl (yW hRl.out) ?_
    | refine wpPr rfl 108 _ _ rfl (w.heap.size+1) (Iv .i64 (rS t)) rfl rfl _ _ HZ.out (aT hRl.out) (eS hRl.out) (aG _ _) (fun W9 hP=>sH ?_))
   refine aH ?_
   have B9:=hP.below _ _ F1.out.bel (by omega)
   have G9:=hP.here
   go_wp2
   exact bodyPost_ret (v:=.agg (Iv .i64 (rS t))) (results_cell_row rfl _ _ _ _ (Iv .i64 (rS t)) _ _ rfl G9 underlying108 rfl (aT hRl.out)) rfl ⟨rfl,B9⟩
def uW (b:List Int) (k:Nat):Int:=b.getD (2*k) 0+256*b.getD (2*k+1) 0
def oA (b:List Int):List Int:=pF9 (aA 16) 0 (uW b) 16
theorem NZ (b:List Int) (h:b.length=32) (hb:aE b):Dg (oA b)∧dN (oA b)=nB b:=by
 have hz:(aA 16).length=16:=rfl
 refine⟨⟨by unfold oA;rw[aP _ _ _ _ (by rw[hz];decide),hz],fun i=>?_⟩,?_⟩
 ·unfold oA
  rw[List.getD_eq_getElem?_getD,cV _ _ _ _ _ (by rw[hz];decide)]
  split
  ·simp only[Option.getD_some,Nat.sub_zero]
   have h1:=hb (2*i)
   have h2:=hb (2*i+1)
   unfold uW
   omega
  ·rw[List.getElem?_eq_none (by rw[hz];omega)]
   simp
 ·match b,h with
  | [a0,a1,a2,a3,a4,a5,a6,a7,a8,a9,a10,a11,a12,a13,a14,a15,a16,a17,a18,a19,a20,a21,a22,a23,a24,a25,a26,a27,a28,a29,a30,a31],_=>
    have e:oA [a0,a1,a2,a3,a4,a5,a6,a7,a8,a9,a10,a11,a12,a13,a14,a15,a16,a17,a18,a19,a20,a21,a22,a23,a24,a25,a26,a27,a28,a29,a30,a31]=[a0+256*a1,a2+256*a3,a4+256*a5,a6+256*a7,a8+256*a9,a10+256*a11,a12+256*a13,a14+256*a15,a16+256*a17,a18+256*a19,a20+256*a21,a22+256*a23,a24+256*a25,a26+256*a27,a28+256*a29,a30+256*a31]:=rfl
    rw[e]
    simp only[dN,nB]
    omega
set_option maxHeartbeats 4000000 in
theorem YN (b:List Int) (hb:b.length=32) (hbb:aE b) (w:World):
 Calls prog 55 #[.agg (Iv .u8 b)] w fun e w'=>e=.returned (.agg (Iv .i64 (oA b)))∧Below w.heap.size w w':=by
 have hzl:=tS
 have HRl:Hid ((oA b).length=16):=(NZ b hb hbb).1.1
 have HBL:Hid _:=hb
 have HBB:Hid (aE b):=hbb
 have hz0:Hid ((aA 16).length=16):=rfl
 clear hb hbb
 obtain⟨W,hW,g0,g1,g2,hsz,hB⟩:=oF w (.cells (Iv .u8 b) 22) (.cells (Iv .i64 (aA 16)) 108) (.cells (Iv .i64 (aA 16)) 108)
 have F0:Hid (Rw w [(w.heap.size+1+1,Iv .i64 (aA 16),108),(w.heap.size+1,Iv .i64 (aA 16),108),(w.heap.size,Iv .u8 b,22)] W):=
  ⟨hB,fun r hr=>by
   simp only[List.mem_cons,nY,or_false]at hr
   rcases hr with rfl|rfl|rfl
   ·exact⟨by simp only;omega,by simp only;omega,g2⟩
   ·exact⟨by simp only;omega,by simp only;omega,g1⟩
   ·exact⟨by simp only;omega,by simp only;omega,g0⟩⟩
 have HW:Hid _:=hW
 have KA:Hid ((((w.alloc (.cells (Iv .u8 b) 22)).alloc (.cells (Iv .i64 (aA 16)) 108)).alloc (.cells (Iv .i64 (aA 16)) 108)).heap[w.heap.size+1+1]? =some (.cells (Iv .i64 (aA 16)) 108)):=by show _=_;rw[hW];exact g2
 clear hW g0 g1 g2 hB hsz
 go_enter func55,ntmps55
 go_wp2_with(refine wpPr rfl 108 _ _ rfl (w.heap.size+1+1) (Iv .i64 (aA 16)) rfl rfl _ _ KA.out PP rfl (aG _ _) (fun W1 hP=>sH ?_))
 refine aH ?_
 have F1:Hid (Rw w [(w.heap.size+1+1,Iv .i64 (pF9 (aA 16) 0 (uW b) 0),108),(w.heap.size+1,Iv .i64 (aA 16),108),(w.heap.size,Iv .u8 b,22)] W1):=by
  rw[HW.out]at hP
  rw[bZ]
  exact Rw.put F0.out hP (fun r hr=>by simp only[List.mem_cons,nY,or_false]at hr;rcases hr with rfl|rfl<;>(simp only;omega))
 clear hP F0 KA HW
 go_wp2_with fail
 go_loopw [6] (fun i wr=>∃k:Nat,k≤16∧i=.int .i64 k∧Rw w [(w.heap.size+1+1,Iv .i64 (pF9 (aA 16) 0 (uW b) k),108),(w.heap.size+1,Iv .i64 (aA 16),108),(w.heap.size,Iv .u8 b,22)] wr) (fun i _=>16 - (intOf i).toNat)
 case atStart=>exact⟨0,Nat.zero_le _,rfl,F1.out⟩
 case round=>
  obtain⟨k,hk16,rfl,hF⟩:=hrel
  have F2:Hid _:=hF
  clear hF F1
  by_cases hk:k<16
  ·have hki:(k:Int)<16:=by omega
   have h1:=HBB.out (2*k)
   have h2:=HBB.out (2*k+1)
   have hc1:wr.drew.cell? ⟨w.heap.size,2*k,none⟩=some (.int .u8 (b.getD (2*k) 0)):=aC.cell (show aC wr w.heap.size .u8 b _ from(F2.out.row _ (mC _ (mC _ mQ))).2.2) (2*k) (by have:=HBL.out;omega)
   have hc2:wr.drew.cell? ⟨w.heap.size,2*k+1,none⟩=some (.int .u8 (b.getD (2*k+1) 0)):=aC.cell (show aC wr w.heap.size .u8 b _ from(F2.out.row _ (mC _ (mC _ mQ))).2.2) (2*k+1) (by have:=HBL.out;omega)
   obtain⟨v,hv⟩:∃v,wr.drew.cell? ⟨w.heap.size+1+1,k,none⟩=some v:=⟨_,aC.cell (show aC wr (w.heap.size+1+1) .i64 _ _ from(F2.out.row _ mQ).2.2) k (by rw[dC _ _ _ (by rw[hz0.out];exact hk16),hz0.out];exact hk)⟩
   have hf:wr.drew.frozen? ⟨w.heap.size+1+1,k,none⟩=false:=frozen_of_row _ _ _ _ _ (F2.out.row _ mQ).2.2
   have HS:Hid ((pF9 (aA 16) 0 (uW b) k).set k (b.getD (2*k) 0+256*b.getD (2*k+1) 0)=pF9 (aA 16) 0 (uW b) (k+1)):=by
    have h1:=bJ (aA 16) 0 (uW b) k (by rw[hz0.out];omega)
    rw[Nat.zero_add]at h1
    exact h1
   have F3:Hid (Rw w [(w.heap.size+1+1,Iv .i64 (pF9 (aA 16) 0 (uW b) (k+1)),108),(w.heap.size+1,Iv .i64 (aA 16),108),(w.heap.size,Iv .u8 b,22)] (wr.drew.setCell ⟨w.heap.size+1+1,k,none⟩ (.int .i64 (b.getD (2*k) 0+256*b.getD (2*k+1) 0)))):=by
    have hP:=fP (F2.out.drew.row _ mQ).2.2 k (.int .i64 (b.getD (2*k) 0+256*b.getD (2*k+1) 0))
    simp only at hP
    rw[bN,HS.out]at hP
    exact Rw.put F2.out.drew hP (fun r hr=>by simp only[List.mem_cons,nY,or_false]at hr;rcases hr with rfl|rfl<;>(simp only;omega))
   generalize b.getD (2*k) 0=z1 at*
   generalize b.getD (2*k+1) 0=z2 at*
   have hb1:((2*k:Nat):Int)=2*(k:Int):=by omega
   have hb2:((2*k+1:Nat):Int)=2*(k:Int)+1:=by omega
   clear F2
   go_wp2
   refine wRh 15 kJ (by kernel_rfl) ?_
   simp only[tU,tJ,dJ,dY]
   repeat(go_big_quiet_step (fail))
   refine wqN ?_
   go_wp2
   go_roundw
   case rel=>exact⟨k+1,by omega,by go_num,F3.out⟩
   case measure=>simp[intOf];omega
  ·obtain rfl:k=16:=by omega
   have HA:Hid (wr.heap[w.heap.size+1+1]? =some (.cells (Iv .i64 (oA b)) 108)):=(F2.out.row _ mQ).2.2
   have HZ:Hid _:=(F2.out.row _ (mC _ mQ)).2.2
   have B2:Hid _:=F2.out.bel
   clear F2
   obtain⟨R,eR⟩:∃x,oA b=x:=⟨_,rfl⟩
   rw[eR]at HA HRl
   have HE:Hid _:=eR
   clear eR
   go_wp2_with(first
    | refine wpLr rfl 108 _ rfl (w.heap.size+1+1) rfl _ (Iv .i64 R) _ _ HA.out underlying108 rfl (aT HRl.out) ?_
    | refine wpPr rfl 108 _ _ rfl (w.heap.size+1) (Iv .i64 R) rfl rfl _ _ HZ.out (aT HRl.out) (eS HRl.out) (aG _ _) (fun W9 hP=>sH ?_))
   refine aH ?_
   have B9:=hP.below _ _ B2.out (by omega)
   have G9:=hP.here
   go_wp2
   exact bodyPost_ret (v:=.agg (Iv .i64 R)) (results_cell_row rfl _ _ _ _ (Iv .i64 R) _ _ rfl G9 underlying108 rfl (aT HRl.out)) rfl ⟨by rw[HE.out],B9⟩
theorem VX (v:Int):prog.built 108 [(0,.int .i64 v)]=some (Iv .i64 (v::aA 15)):=by kernel_rfl
set_option maxHeartbeats 1000000 in
set_option maxRecDepth 10000 in
theorem AF (n:Int) (hn:0≤n∧n≤65535) (w:World):
 Calls prog 75 #[.int .i64 n] w fun e w'=>e=.returned (.agg (Iv .i64 (iJ n)))∧Below w.heap.size w w':=by
 have hzl:=tS
 have hbu:=VX n
 have hl:Hid ((n::aA 15).length=16):=rfl
 have KA:Hid ((w.alloc (.cells (Iv .i64 (aA 16)) 108)).heap[w.heap.size]? =some (.cells (Iv .i64 (aA 16)) 108)):=hAN _ _
 have BA:Hid (Below w.heap.size w (w.alloc (.cells (Iv .i64 (aA 16)) 108))):=(Below.refl w.heap.size w).alloc (nQ _) _
 go_enter func75,ntmps75
 go_wp2_with(refine wpPr rfl 108 _ _ rfl w.heap.size (Iv .i64 (n::aA 15)) rfl rfl _ _ KA.out (aT hl.out) (eS hl.out) (aG _ _) (fun W9 hP=>sH ?_))
 refine aH ?_
 have B9:=hP.below _ _ BA.out (nQ _)
 have G9:=hP.here
 obtain⟨R,eR⟩:∃x,n::aA 15=x:=⟨_,rfl⟩
 have e2:Hid (iJ n=R):=eR
 rw[eR]at G9 hl
 clear eR hbu hP KA BA
 go_wp2
 exact bodyPost_ret (v:=.agg (Iv .i64 R)) (results_cell_row rfl _ _ _ _ (Iv .i64 R) _ _ rfl G9 underlying108 rfl (aT hl.out)) rfl ⟨by rw[e2.out],B9⟩
set_option maxHeartbeats 4000000 in
theorem yI (a b:List Int) (ha:Dg a) (hb:Dg b) (w:World):
 Calls prog 99 #[.agg (Iv .i64 a),.agg (Iv .i64 b)] w fun e w'=>e=.returned (.agg (Iv .i64 (nO a b)))∧Below w.heap.size w w':=by
 have hzl:=tS
 have hz16:=DI
 have HSu:Hid (Su (J0 a b)):=J4 a b ha hb
 have HRl:Hid ((nO a b).length=16):=(sQ _ HSu.out).1.1
 have HC:Hid (∀W,Calls prog 80 #[.agg (Iv .i64 (J0 a b))] W fun e w'=>e=.returned (.agg (Iv .i64 (nO a b)))∧Below W.heap.size W w'):=fun W=>sR _ HSu.out W
 have HA:Hid (Dg a):=ha
 have HB:Hid (Dg b):=hb
 have hz0:Hid ((aA 16).length=16):=rfl
 clear ha hb
 obtain⟨W,hW,g0,g1,g2,g3,hsz,hBe⟩:=qZ w (.cells (Iv .i64 a) 108) (.cells (Iv .i64 b) 108) (.cells (Iv .i64 (aA 16)) 108) (.cells (Iv .i64 (aA 16)) 107)
 have F0:Hid (Rw w [(w.heap.size+1+1+1,Iv .i64 (aA 16),107),(w.heap.size+1+1,Iv .i64 (aA 16),108),(w.heap.size+1,Iv .i64 b,108),(w.heap.size,Iv .i64 a,108)] W):=
  ⟨hBe,fun r hr=>by
   simp only[List.mem_cons,nY,or_false]at hr
   rcases hr with rfl|rfl|rfl|rfl
   ·exact⟨by simp only;omega,by simp only;omega,g3⟩
   ·exact⟨by simp only;omega,by simp only;omega,g2⟩
   ·exact⟨by simp only;omega,by simp only;omega,g1⟩
   ·exact⟨by simp only;omega,by simp only;omega,g0⟩⟩
 have HW:Hid _:=hW
 have KA:Hid (((((w.alloc (.cells (Iv .i64 a) 108)).alloc (.cells (Iv .i64 b) 108)).alloc (.cells (Iv .i64 (aA 16)) 108)).alloc (.cells (Iv .i64 (aA 16)) 107)).heap[w.heap.size+1+1+1]? =some (.cells (Iv .i64 (aA 16)) 107)):=by show _=_;rw[hW];exact g3
 clear hW g0 g1 g2 g3 hBe hsz
 go_enter func99,ntmps99
 go_wp2_with(refine wpPr rfl 107 _ _ rfl (w.heap.size+1+1+1) (Iv .i64 (aA 16)) rfl rfl _ _ KA.out yV rfl (aG _ _) (fun W1 hP=>sH ?_))
 refine aH ?_
 have F1:Hid (Rw w [(w.heap.size+1+1+1,Iv .i64 (pF9 (aA 16) 0 (AO a b) 0),107),(w.heap.size+1+1,Iv .i64 (aA 16),108),(w.heap.size+1,Iv .i64 b,108),(w.heap.size,Iv .i64 a,108)] W1):=by
  rw[HW.out]at hP
  rw[bZ]
  exact Rw.put F0.out hP (fun r hr=>by simp only[List.mem_cons,nY,or_false]at hr;rcases hr with rfl|rfl|rfl<;>(simp only;omega))
 clear hP F0 KA HW
 go_wp2_with fail
 go_loopw [8] (fun i wr=>∃k:Nat,k≤16∧i=.int .i64 k∧Rw w [(w.heap.size+1+1+1,Iv .i64 (pF9 (aA 16) 0 (AO a b) k),107),(w.heap.size+1+1,Iv .i64 (aA 16),108),(w.heap.size+1,Iv .i64 b,108),(w.heap.size,Iv .i64 a,108)] wr) (fun i _=>16 - (intOf i).toNat)
 case atStart=>exact⟨0,Nat.zero_le _,rfl,F1.out⟩
 case round=>
  obtain⟨k,hk16,rfl,hF⟩:=hrel
  have F2:Hid _:=hF
  clear hF F1
  by_cases hk:k<16
  ·have hki:(k:Int)<16:=by omega
   have h1:=HA.out.2 k
   have h2:=HB.out.2 k
   have hc1:wr.drew.cell? ⟨w.heap.size,k,none⟩=some (.int .i64 (a.getD k 0)):=aC.cell (show aC wr w.heap.size .i64 a _ from(F2.out.row _ (mC _ (mC _ (mC _ mQ)))).2.2) k (by rw[HA.out.1];exact hk)
   have hc2:wr.drew.cell? ⟨w.heap.size+1,k,none⟩=some (.int .i64 (b.getD k 0)):=aC.cell (show aC wr (w.heap.size+1) .i64 b _ from(F2.out.row _ (mC _ (mC _ mQ))).2.2) k (by rw[HB.out.1];exact hk)
   obtain⟨v,hv⟩:∃v,wr.drew.cell? ⟨w.heap.size+1+1+1,k,none⟩=some v:=⟨_,aC.cell (show aC wr (w.heap.size+1+1+1) .i64 _ _ from(F2.out.row _ mQ).2.2) k (by rw[dC _ _ _ (by rw[hz0.out];exact hk16),hz0.out];exact hk)⟩
   have hf:wr.drew.frozen? ⟨w.heap.size+1+1+1,k,none⟩=false:=frozen_of_row _ _ _ _ _ (F2.out.row _ mQ).2.2
   have HS:Hid ((pF9 (aA 16) 0 (AO a b) k).set k (a.getD k 0+b.getD k 0)=pF9 (aA 16) 0 (AO a b) (k+1)):=by
    have h1:=bJ (aA 16) 0 (AO a b) k (by rw[hz0.out];omega)
    rw[Nat.zero_add]at h1
    exact h1
   have F3:Hid (Rw w [(w.heap.size+1+1+1,Iv .i64 (pF9 (aA 16) 0 (AO a b) (k+1)),107),(w.heap.size+1+1,Iv .i64 (aA 16),108),(w.heap.size+1,Iv .i64 b,108),(w.heap.size,Iv .i64 a,108)] (wr.drew.setCell ⟨w.heap.size+1+1+1,k,none⟩ (.int .i64 (a.getD k 0+b.getD k 0)))):=by
    have hP:=fP (F2.out.drew.row _ mQ).2.2 k (.int .i64 (a.getD k 0+b.getD k 0))
    simp only at hP
    rw[bN,HS.out]at hP
    exact Rw.put F2.out.drew hP (fun r hr=>by simp only[List.mem_cons,nY,or_false]at hr;rcases hr with rfl|rfl|rfl<;>(simp only;omega))
   generalize a.getD k 0=z1 at*
   generalize b.getD k 0=z2 at*
   clear F2
   go_wp2
   refine wRh 9 kJ (by kernel_rfl) ?_
   simp only[tU,tJ,dJ,dY]
   repeat(go_big_quiet_step (fail))
   refine wqN ?_
   go_wp2
   go_roundw
   case rel=>exact⟨k+1,by omega,by go_num,F3.out⟩
   case measure=>simp[intOf];omega
  ·obtain rfl:k=16:=by omega
   have F6:Hid (Rw w [(w.heap.size+1+1+1,Iv .i64 (J0 a b),107),(w.heap.size+1+1,Iv .i64 (aA 16),108),(w.heap.size+1,Iv .i64 b,108),(w.heap.size,Iv .i64 a,108)] wr):=F2.out
   clear F2
   have HA2:Hid _:=(F6.out.row _ mQ).2.2
   have hsl:Hid ((J0 a b).length=16):=HSu.out.1
   obtain⟨ll,ell⟩:∃x,J0 a b=x:=⟨_,rfl⟩
   rw[ell]at HA2 hsl HC
   clear HSu
   go_wp2_with(with_reducible refine aJ ?_;refine wpLr rfl 107 _ rfl (w.heap.size+1+1+1) rfl _ (Iv .i64 ll) _ _ HA2.out underlying107 rfl (yW hsl.out) ?_)
   refine(HC.out _).mono ?_
   rintro e Z ⟨rfl,hb⟩
   have F8:Hid _:=F6.out.later hb (nQ _)
   have HZ:Hid _:=(F8.out.row _ (mC _ mQ)).2.2
   have B8:Hid _:=F8.out.bel
   clear hb F6 F8 HA2 HC
   obtain⟨R,eR⟩:∃x,nO a b=x:=⟨_,rfl⟩
   rw[eR]at HRl⊢
   have HE:Hid _:=eR
   clear eR ell
   go_wp2_with(refine wpPr rfl 108 _ _ rfl (w.heap.size+1+1) (Iv .i64 R) rfl rfl _ _ HZ.out (aT HRl.out) (eS HRl.out) (aG _ _) (fun W9 hP=>sH ?_))
   refine aH ?_
   have B9:=hP.below _ _ B8.out (by omega)
   have G9:=hP.here
   go_wp2
   exact bodyPost_ret (v:=.agg (Iv .i64 R)) (results_cell_row rfl _ _ _ _ (Iv .i64 R) _ _ rfl G9 underlying108 rfl (aT HRl.out)) rfl ⟨by rw[HE.out],B9⟩
set_option maxHeartbeats 4000000 in
theorem zN (a b:List Int) (ha:Dg a) (hb:Dg b) (w:World):
 Calls prog 100 #[.agg (Iv .i64 a),.agg (Iv .i64 b)] w fun e w'=>e=.returned (.agg (Iv .i64 (nX a b)))∧Below w.heap.size w w':=by
 have hzl:=tS
 have hz16:=DI
 have HSu:Hid (Su (FR a b)):=LP a b ha hb
 have HRl:Hid ((nX a b).length=16):=(sQ _ HSu.out).1.1
 have HC:Hid (∀W,Calls prog 80 #[.agg (Iv .i64 (FR a b))] W fun e w'=>e=.returned (.agg (Iv .i64 (nX a b)))∧Below W.heap.size W w'):=fun W=>sR _ HSu.out W
 have HA:Hid (Dg a):=ha
 have HB:Hid (Dg b):=hb
 have hz0:Hid ((aA 16).length=16):=rfl
 clear ha hb
 obtain⟨W,hW,g0,g1,g2,g3,hsz,hBe⟩:=qZ w (.cells (Iv .i64 a) 108) (.cells (Iv .i64 b) 108) (.cells (Iv .i64 (aA 16)) 108) (.cells (Iv .i64 (aA 16)) 107)
 have F0:Hid (Rw w [(w.heap.size+1+1+1,Iv .i64 (aA 16),107),(w.heap.size+1+1,Iv .i64 (aA 16),108),(w.heap.size+1,Iv .i64 b,108),(w.heap.size,Iv .i64 a,108)] W):=
  ⟨hBe,fun r hr=>by
   simp only[List.mem_cons,nY,or_false]at hr
   rcases hr with rfl|rfl|rfl|rfl
   ·exact⟨by simp only;omega,by simp only;omega,g3⟩
   ·exact⟨by simp only;omega,by simp only;omega,g2⟩
   ·exact⟨by simp only;omega,by simp only;omega,g1⟩
   ·exact⟨by simp only;omega,by simp only;omega,g0⟩⟩
 have HW:Hid _:=hW
 have KA:Hid (((((w.alloc (.cells (Iv .i64 a) 108)).alloc (.cells (Iv .i64 b) 108)).alloc (.cells (Iv .i64 (aA 16)) 108)).alloc (.cells (Iv .i64 (aA 16)) 107)).heap[w.heap.size+1+1+1]? =some (.cells (Iv .i64 (aA 16)) 107)):=by show _=_;rw[hW];exact g3
 clear hW g0 g1 g2 g3 hBe hsz
 go_enter func100,ntmps100
 go_wp2_with(refine wpPr rfl 107 _ _ rfl (w.heap.size+1+1+1) (Iv .i64 (aA 16)) rfl rfl _ _ KA.out yV rfl (aG _ _) (fun W1 hP=>sH ?_))
 refine aH ?_
 have F1:Hid (Rw w [(w.heap.size+1+1+1,Iv .i64 (pF9 (aA 16) 0 (jT a b) 0),107),(w.heap.size+1+1,Iv .i64 (aA 16),108),(w.heap.size+1,Iv .i64 b,108),(w.heap.size,Iv .i64 a,108)] W1):=by
  rw[HW.out]at hP
  rw[bZ]
  exact Rw.put F0.out hP (fun r hr=>by simp only[List.mem_cons,nY,or_false]at hr;rcases hr with rfl|rfl|rfl<;>(simp only;omega))
 clear hP F0 KA HW
 go_wp2_with fail
 go_loopw [8] (fun i wr=>∃k:Nat,k≤16∧i=.int .i64 k∧Rw w [(w.heap.size+1+1+1,Iv .i64 (pF9 (aA 16) 0 (jT a b) k),107),(w.heap.size+1+1,Iv .i64 (aA 16),108),(w.heap.size+1,Iv .i64 b,108),(w.heap.size,Iv .i64 a,108)] wr) (fun i _=>16 - (intOf i).toNat)
 case atStart=>exact⟨0,Nat.zero_le _,rfl,F1.out⟩
 case round=>
  obtain⟨k,hk16,rfl,hF⟩:=hrel
  have F2:Hid _:=hF
  clear hF F1
  by_cases hk:k<16
  ·have hki:(k:Int)<16:=by omega
   have h1:=HA.out.2 k
   have h2:=HB.out.2 k
   have hc1:wr.drew.cell? ⟨w.heap.size,k,none⟩=some (.int .i64 (a.getD k 0)):=aC.cell (show aC wr w.heap.size .i64 a _ from(F2.out.row _ (mC _ (mC _ (mC _ mQ)))).2.2) k (by rw[HA.out.1];exact hk)
   have hc2:wr.drew.cell? ⟨w.heap.size+1,k,none⟩=some (.int .i64 (b.getD k 0)):=aC.cell (show aC wr (w.heap.size+1) .i64 b _ from(F2.out.row _ (mC _ (mC _ mQ))).2.2) k (by rw[HB.out.1];exact hk)
   obtain⟨v,hv⟩:∃v,wr.drew.cell? ⟨w.heap.size+1+1+1,k,none⟩=some v:=⟨_,aC.cell (show aC wr (w.heap.size+1+1+1) .i64 _ _ from(F2.out.row _ mQ).2.2) k (by rw[dC _ _ _ (by rw[hz0.out];exact hk16),hz0.out];exact hk)⟩
   have hf:wr.drew.frozen? ⟨w.heap.size+1+1+1,k,none⟩=false:=frozen_of_row _ _ _ _ _ (F2.out.row _ mQ).2.2
   have HS:Hid ((pF9 (aA 16) 0 (jT a b) k).set k (a.getD k 0+131070 - b.getD k 0)=pF9 (aA 16) 0 (jT a b) (k+1)):=by
    have h1:=bJ (aA 16) 0 (jT a b) k (by rw[hz0.out];omega)
    rw[Nat.zero_add]at h1
    exact h1
   have F3:Hid (Rw w [(w.heap.size+1+1+1,Iv .i64 (pF9 (aA 16) 0 (jT a b) (k+1)),107),(w.heap.size+1+1,Iv .i64 (aA 16),108),(w.heap.size+1,Iv .i64 b,108),(w.heap.size,Iv .i64 a,108)] (wr.drew.setCell ⟨w.heap.size+1+1+1,k,none⟩ (.int .i64 (a.getD k 0+131070 - b.getD k 0)))):=by
    have hP:=fP (F2.out.drew.row _ mQ).2.2 k (.int .i64 (a.getD k 0+131070 - b.getD k 0))
    simp only at hP
    rw[bN,HS.out]at hP
    exact Rw.put F2.out.drew hP (fun r hr=>by simp only[List.mem_cons,nY,or_false]at hr;rcases hr with rfl|rfl|rfl<;>(simp only;omega))
   generalize a.getD k 0=z1 at*
   generalize b.getD k 0=z2 at*
   clear F2
   go_wp2
   refine wRh 10 kJ (by kernel_rfl) ?_
   simp only[tU,tJ,dJ,dY]
   repeat(go_big_quiet_step (fail))
   refine wqN ?_
   go_wp2
   go_roundw
   case rel=>exact⟨k+1,by omega,by go_num,F3.out⟩
   case measure=>simp[intOf];omega
  ·obtain rfl:k=16:=by omega
   have hs0:Hid (Su (pF9 (aA 16) 0 (jT a b) 16)):=SJ _ fun i _=>by have h1:=HA.out.2 i;have h2:=HB.out.2 i;unfold jT;omega
   have hx0:65535≤jT a b 0∧jT a b 0≤196605:=by have h1:=HA.out.2 0;have h2:=HB.out.2 0;unfold jT;omega
   have hg0:(pF9 (aA 16) 0 (jT a b) 16).getD 0 0=jT a b 0:=by
    rw[List.getD_eq_getElem?_getD,cV _ _ _ _ _ (by rw[hz0.out];decide),if_pos (by decide)]
    rfl
   have hc0:wr.cell? ⟨w.heap.size+1+1+1,0,none⟩=some (.int .i64 (jT a b 0)):=by
    have h:=aC.cell (show aC wr (w.heap.size+1+1+1) .i64 _ _ from(F2.out.row _ mQ).2.2) 0 (by rw[hs0.out.1];decide)
    rw[hg0]at h
    exact h
   have hf:wr.frozen? ⟨w.heap.size+1+1+1,0,none⟩=false:=frozen_of_row _ _ _ _ _ (F2.out.row _ mQ).2.2
   have F6:Hid (Rw w [(w.heap.size+1+1+1,Iv .i64 (FR a b),107),(w.heap.size+1+1,Iv .i64 (aA 16),108),(w.heap.size+1,Iv .i64 b,108),(w.heap.size,Iv .i64 a,108)] (wr.setCell ⟨w.heap.size+1+1+1,0,none⟩ (.int .i64 (jT a b 0 - 74)))):=by
    have hP:=fP (F2.out.row _ mQ).2.2 0 (.int .i64 (jT a b 0 - 74))
    simp only at hP
    rw[bN]at hP
    exact Rw.put F2.out hP (fun r hr=>by simp only[List.mem_cons,nY,or_false]at hr;rcases hr with rfl|rfl|rfl<;>(simp only;omega))
   generalize jT a b 0=z0 at*
   clear F2 hs0 hg0
   have HA2:Hid _:=(F6.out.row _ mQ).2.2
   have hsl:Hid ((FR a b).length=16):=HSu.out.1
   obtain⟨ll,ell⟩:∃x,FR a b=x:=⟨_,rfl⟩
   rw[ell]at HA2 hsl HC
   clear HSu
   go_wp2_with(with_reducible refine aJ ?_;refine wpLr rfl 107 _ rfl (w.heap.size+1+1+1) rfl _ (Iv .i64 ll) _ _ HA2.out underlying107 rfl (yW hsl.out) ?_)
   refine(HC.out _).mono ?_
   rintro e Z ⟨rfl,hb⟩
   have F8:Hid _:=F6.out.later hb (nQ _)
   have HZ:Hid _:=(F8.out.row _ (mC _ mQ)).2.2
   have B8:Hid _:=F8.out.bel
   clear hb F6 F8 HA2 HC
   obtain⟨R,eR⟩:∃x,nX a b=x:=⟨_,rfl⟩
   rw[eR]at HRl⊢
   have HE:Hid _:=eR
   clear eR ell
   go_wp2_with(refine wpPr rfl 108 _ _ rfl (w.heap.size+1+1) (Iv .i64 R) rfl rfl _ _ HZ.out (aT HRl.out) (eS HRl.out) (aG _ _) (fun W9 hP=>sH ?_))
   refine aH ?_
   have B9:=hP.below _ _ B8.out (by omega)
   have G9:=hP.here
   go_wp2
   exact bodyPost_ret (v:=.agg (Iv .i64 R)) (results_cell_row rfl _ _ _ _ (Iv .i64 R) _ _ rfl G9 underlying108 rfl (aT HRl.out)) rfl ⟨by rw[HE.out],B9⟩
theorem aaC:(prog.info? 145).map (·.size)=some 32:=by kernel_rfl
theorem abF:∀W,(zeroValue 145).run prog W=.ok (.agg (Iv .i64 (aA 32))) W:=(zero_of_info (n:=32) (by kernel_rfl)).1
set_option maxHeartbeats 8000000 in
theorem kU (a b:List Int) (ha:Dg a) (hb:Dg b) (w:World):
 Calls prog 57 #[.agg (Iv .i64 a),.agg (Iv .i64 b)] w fun e w'=>e=.returned (.agg (Iv .i64 (fI a b)))∧Below w.heap.size w w':=by
 have hzl:=tS
 have hz32:=abF
 have hz16:=DI
 have HRl:Hid ((fI a b).length=16):=(zD a b ha hb).1.1
 have HLs:Hid (Su (EY (dU a b 16))):=YA a b ha hb
 have HC:Hid (∀W,Calls prog 80 #[.agg (Iv .i64 (EY (dU a b 16)))] W fun e w'=>e=.returned (.agg (Iv .i64 (fI a b)))∧Below W.heap.size W w'):=fun W=>sR _ HLs.out W
 have HA:Hid (Dg a):=ha
 have HB:Hid (Dg b):=hb
 have hz0:Hid ((aA 16).length=16):=rfl
 clear ha hb
 obtain⟨W,hW,g0,g1,g2,g3,hsz,hBe⟩:=qZ w (.cells (Iv .i64 a) 108) (.cells (Iv .i64 b) 108) (.cells (Iv .i64 (aA 16)) 108) (.cells (Iv .i64 (aA 32)) 145)
 have F0:Hid (Rw w [(w.heap.size+1+1+1,Iv .i64 (aA 32),145),(w.heap.size+1+1,Iv .i64 (aA 16),108),(w.heap.size+1,Iv .i64 b,108),(w.heap.size,Iv .i64 a,108)] W):=
  ⟨hBe,fun r hr=>by
   simp only[List.mem_cons,nY,or_false]at hr
   rcases hr with rfl|rfl|rfl|rfl
   ·exact⟨by simp only;omega,by simp only;omega,g3⟩
   ·exact⟨by simp only;omega,by simp only;omega,g2⟩
   ·exact⟨by simp only;omega,by simp only;omega,g1⟩
   ·exact⟨by simp only;omega,by simp only;omega,g0⟩⟩
 have HW:Hid _:=hW
 have KA:Hid (((((w.alloc (.cells (Iv .i64 a) 108)).alloc (.cells (Iv .i64 b) 108)).alloc (.cells (Iv .i64 (aA 16)) 108)).alloc (.cells (Iv .i64 (aA 32)) 145)).heap[w.heap.size+1+1+1]? =some (.cells (Iv .i64 (aA 32)) 145)):=by show _=_;rw[hW];exact g3
 clear hW g0 g1 g2 g3 hBe hsz
 go_enter func57,ntmps57
 go_wp2_with(refine wpPr rfl 145 _ _ rfl (w.heap.size+1+1+1) (Iv .i64 (aA 32)) rfl rfl _ _ KA.out aaC rfl (aG _ _) (fun W1 hP=>sH ?_))
 refine aH ?_
 have F1:Hid (Rw w [(w.heap.size+1+1+1,Iv .i64 (dU a b 0),145),(w.heap.size+1+1,Iv .i64 (aA 16),108),(w.heap.size+1,Iv .i64 b,108),(w.heap.size,Iv .i64 a,108)] W1):=by
  rw[HW.out]at hP
  exact Rw.put F0.out hP (fun r hr=>by simp only[List.mem_cons,nY,or_false]at hr;rcases hr with rfl|rfl|rfl<;>(simp only;omega))
 clear hP F0 KA HW
 go_wp2_with fail
 go_loopw [11] (fun x wr=>∃i:Nat,i≤16∧x=.int .i64 i∧Rw w [(w.heap.size+1+1+1,Iv .i64 (dU a b i),145),(w.heap.size+1+1,Iv .i64 (aA 16),108),(w.heap.size+1,Iv .i64 b,108),(w.heap.size,Iv .i64 a,108)] wr) (fun x _=>16 - (intOf x).toNat)
 case atStart=>exact⟨0,Nat.zero_le _,rfl,F1.out⟩
 case round=>
  obtain⟨i,hi16,rfl,hF⟩:=hrel
  have F2:Hid _:=hF
  clear hF F1
  by_cases hi:i<16
  ·have hii:(i:Int)<16:=by omega
   obtain⟨V,eV⟩:∃x,x=wr:=⟨_,rfl⟩
   subst eV
   have hai:=HA.out.2 i
   have HM:Hid (∀j,j≤16→Bd (iZ (dU a b i) (a.getD i 0) b i j) i j):=Bd.step (dU a b i) (a.getD i 0) b i (iH a b i) hi (HA.out.2 i) HB.out (Bd.all a b HA.out HB.out i (by omega))
   have HML:Hid (∀j,(iZ (dU a b i) (a.getD i 0) b i j).length=32):=fun j=>by rw[kQ,iH]
   have HMS:Hid (dU a b (i+1)=iZ (dU a b i) (a.getD i 0) b i 16):=rfl
   have hca:∀wr,Rw w [(w.heap.size,Iv .i64 a,108)] wr→wr.drew.cell? ⟨w.heap.size,i,none⟩=some (.int .i64 (a.getD i 0)):=fun wr h=>aC.cell (show aC wr w.heap.size .i64 a _ from(h.row _ mQ).2.2) i (by have:=HA.out.1;omega)
   have HCA:Hid _:=hca
   clear hca
   obtain⟨l0,el0⟩:∃x,dU a b i=x:=⟨_,rfl⟩
   obtain⟨x0,ex0⟩:∃x,a.getD i 0=x:=⟨_,rfl⟩
   rw[el0]at F2
   rw[el0,ex0]at HM HML HMS
   rw[ex0]at HCA hai
   clear el0 ex0
   go_wp2_with fail
   go_loopw [14] (fun y wr=>∃j:Nat,j≤16∧y=.int .i64 j∧Rw w [(w.heap.size+1+1+1,Iv .i64 (iZ l0 x0 b i j),145),(w.heap.size+1+1,Iv .i64 (aA 16),108),(w.heap.size+1,Iv .i64 b,108),(w.heap.size,Iv .i64 a,108)] wr) (fun y _=>16 - (intOf y).toNat)
   case atStart=>exact⟨0,Nat.zero_le _,rfl,F2.out⟩
   case round=>
    obtain⟨j,hj16,rfl,hF⟩:=hrel
    have F3:Hid _:=hF
    clear hF F2
    by_cases hj:j<16
    ·have hji:(j:Int)<16:=by omega
     have hbj:=HB.out.2 j
     have hpr:=NU x0 (b.getD j 0) hai hbj
     have htm:=(HM.out j hj16).le (by omega) (i+j)
     have hcA:=HCA.out wr (F3.out.sub (fun r hr=>by rw[mU.1 hr];simp))
     have hcB:wr.drew.cell? ⟨w.heap.size+1,j,none⟩=some (.int .i64 (b.getD j 0)):=aC.cell (show aC wr (w.heap.size+1) .i64 b _ from(F3.out.row _ (mC _ (mC _ mQ))).2.2) j (by have:=HB.out.1;omega)
     have hcT:wr.drew.cell? ⟨w.heap.size+1+1+1,i+j,none⟩=some (.int .i64 ((iZ l0 x0 b i j).getD (i+j) 0)):=aC.cell (show aC wr (w.heap.size+1+1+1) .i64 _ _ from(F3.out.row _ mQ).2.2) (i+j) (by rw[HML.out];omega)
     have hf:wr.drew.frozen? ⟨w.heap.size+1+1+1,i+j,none⟩=false:=frozen_of_row _ _ _ _ _ (F3.out.row _ mQ).2.2
     have F4:Hid (Rw w [(w.heap.size+1+1+1,Iv .i64 (iZ l0 x0 b i (j+1)),145),(w.heap.size+1+1,Iv .i64 (aA 16),108),(w.heap.size+1,Iv .i64 b,108),(w.heap.size,Iv .i64 a,108)] (wr.drew.setCell ⟨w.heap.size+1+1+1,i+j,none⟩ (.int .i64 ((iZ l0 x0 b i j).getD (i+j) 0+x0*b.getD j 0)))):=by
      have hP:=fP (F3.out.drew.row _ mQ).2.2 (i+j) (.int .i64 ((iZ l0 x0 b i j).getD (i+j) 0+x0*b.getD j 0))
      simp only at hP
      rw[bN]at hP
      exact Rw.put F3.out.drew hP (fun r hr=>by simp only[List.mem_cons,nY,or_false]at hr;rcases hr with rfl|rfl|rfl<;>(simp only;omega))
     have hij:((i+j:Nat):Int)=(i:Int)+(j:Int):=by omega
     generalize(iZ l0 x0 b i j).getD (i+j) 0=tm at*
     generalize b.getD j 0=y0 at*
     clear F3
     go_wp2
     refine wRh 14 kJ (by kernel_rfl) ?_
     simp only[tU,tJ,dJ,dY]
     repeat(go_big_quiet_step (fail))
     refine wqN ?_
     go_wp2
     go_roundw
     case rel=>exact⟨j+1,by omega,by go_num,F4.out⟩
     case measure=>simp[intOf];omega
    ·obtain rfl:j=16:=by omega
     rw[←HMS.out]at F3
     go_wp2
     go_roundw
     case rel=>exact⟨i+1,by omega,by go_num,F3.out⟩
     case measure=>simp[intOf];omega
  ·obtain rfl:i=16:=by omega
   obtain⟨V,eV⟩:∃x,x=wr:=⟨_,rfl⟩
   subst eV
   have HTB:Hid (Bd (dU a b 16) 16 0):=Bd.all a b HA.out HB.out 16 (nQ _)
   have HTL:Hid ((dU a b 16).length=32):=iH a b 16
   have HLL:Hid (EY (dU a b 16)=pF9 (aA 16) 0 (zB (dU a b 16)) 16):=rfl
   obtain⟨tt,ett⟩:∃x,dU a b 16=x:=⟨_,rfl⟩
   rw[ett]at F2 HTB HTL HLL HC HLs
   clear ett
   have F3:Hid (Rw w [(w.heap.size+1+1+1,Iv .i64 tt,145),(w.heap.size+1+1,Iv .i64 (aA 16),108)] V):=F2.out.sub (fun r hr=>by simp only[List.mem_cons,nY,or_false]at hr⊢;rcases hr with rfl|rfl<;>simp)
   have hlt:w.heap.size+1+1+1<V.heap.size:=(F3.out.row _ mQ).2.1
   have KB:Hid ((V.alloc (.cells (Iv .i64 (aA 16)) 107)).heap[V.heap.size]? =some (.cells (Iv .i64 (aA 16)) 107)):=hAN _ _
   clear F2
   go_wp2_with(refine wpPr rfl 107 _ _ rfl V.heap.size (Iv .i64 (aA 16)) rfl rfl _ _ KB.out yV rfl (aG _ _) (fun V1 hP=>sH ?_))
   refine aH ?_
   have F4:=F3.out.newRow hP
   obtain⟨g8,eg8⟩:∃x,x=V.heap.size:=⟨_,rfl⟩
   rw[←eg8]at F4 hlt⊢
   have F5:Hid (Rw w [(g8,Iv .i64 (pF9 (aA 16) 0 (zB tt) 0),107),(w.heap.size+1+1+1,Iv .i64 tt,145),(w.heap.size+1+1,Iv .i64 (aA 16),108)] V1):=by rw[bZ];exact F4
   clear F4 hP eg8 KB F3
   go_wp2_with fail
   go_loopw [34] (fun x wr=>∃k:Nat,k≤16∧x=.int .i64 k∧Rw w [(g8,Iv .i64 (pF9 (aA 16) 0 (zB tt) k),107),(w.heap.size+1+1+1,Iv .i64 tt,145),(w.heap.size+1+1,Iv .i64 (aA 16),108)] wr) (fun x _=>16 - (intOf x).toNat)
   case atStart=>exact⟨0,Nat.zero_le _,rfl,F5.out⟩
   case round=>
    obtain⟨k,hk16,rfl,hF⟩:=hrel
    have F6:Hid _:=hF
    clear hF F5
    by_cases hk:k<16
    ·have hki:(k:Int)<16:=by omega
     have h1:0≤tt.getD k 0∧tt.getD k 0≤68717379600:=by have:=HTB.out k;rw[if_neg (by omega)]at this;omega
     have h2:0≤tt.getD (k+16) 0∧tt.getD (k+16) 0≤68717379600:=by have:=HTB.out (k+16);rw[if_neg (by omega)]at this;omega
     have hc1:wr.drew.cell? ⟨w.heap.size+1+1+1,k,none⟩=some (.int .i64 (tt.getD k 0)):=aC.cell (show aC wr (w.heap.size+1+1+1) .i64 tt _ from(F6.out.row _ (mC _ mQ)).2.2) k (by rw[HTL.out];omega)
     have hc2:wr.drew.cell? ⟨w.heap.size+1+1+1,k+16,none⟩=some (.int .i64 (tt.getD (k+16) 0)):=aC.cell (show aC wr (w.heap.size+1+1+1) .i64 tt _ from(F6.out.row _ (mC _ mQ)).2.2) (k+16) (by rw[HTL.out];omega)
     obtain⟨v,hv⟩:∃v,wr.drew.cell? ⟨g8,k,none⟩=some v:=⟨_,aC.cell (show aC wr g8 .i64 _ _ from(F6.out.row _ mQ).2.2) k (by rw[dC _ _ _ (by rw[hz0.out];exact hk16),hz0.out];exact hk)⟩
     have hf:wr.drew.frozen? ⟨g8,k,none⟩=false:=frozen_of_row _ _ _ _ _ (F6.out.row _ mQ).2.2
     have HS:Hid ((pF9 (aA 16) 0 (zB tt) k).set k (tt.getD k 0+38*tt.getD (k+16) 0)=pF9 (aA 16) 0 (zB tt) (k+1)):=by
      have h1:=bJ (aA 16) 0 (zB tt) k (by rw[hz0.out];omega)
      rw[Nat.zero_add]at h1
      exact h1
     have F7:Hid (Rw w [(g8,Iv .i64 (pF9 (aA 16) 0 (zB tt) (k+1)),107),(w.heap.size+1+1+1,Iv .i64 tt,145),(w.heap.size+1+1,Iv .i64 (aA 16),108)] (wr.drew.setCell ⟨g8,k,none⟩ (.int .i64 (tt.getD k 0+38*tt.getD (k+16) 0)))):=by
      have hP:=fP (F6.out.drew.row _ mQ).2.2 k (.int .i64 (tt.getD k 0+38*tt.getD (k+16) 0))
      simp only at hP
      rw[bN,HS.out]at hP
      exact Rw.put F6.out.drew hP (fun r hr=>by simp only[List.mem_cons,nY,or_false]at hr;rcases hr with rfl|rfl<;>(simp only;omega))
     have hb2:((k+16:Nat):Int)=(k:Int)+16:=by omega
     generalize tt.getD k 0=z1 at*
     generalize tt.getD (k+16) 0=z2 at*
     clear F6
     go_wp2
     refine wRh 11 kJ (by kernel_rfl) ?_
     simp only[tU,tJ,dJ,dY]
     repeat(go_big_quiet_step (fail))
     refine wqN ?_
     go_wp2
     go_roundw
     case rel=>exact⟨k+1,by omega,by go_num,F7.out⟩
     case measure=>simp[intOf];omega
    ·obtain rfl:k=16:=by omega
     rw[←HLL.out]at F6
     have HA2:Hid _:=(F6.out.row _ mQ).2.2
     have hsl:Hid ((EY tt).length=16):=HLs.out.1
     obtain⟨Y,eY⟩:∃x,x=wr:=⟨_,rfl⟩
     subst eY
     go_wp2_with(with_reducible refine aJ ?_;refine wpLr rfl 107 _ rfl g8 rfl _ (Iv .i64 (EY tt)) _ _ HA2.out underlying107 rfl (yW hsl.out) ?_)
     refine(HC.out _).mono ?_
     rintro e Z ⟨rfl,hb⟩
     have F8:Hid _:=F6.out.later hb (nQ _)
     have HZ:Hid _:=(F8.out.row _ (mC _ (mC _ mQ))).2.2
     have B8:Hid _:=F8.out.bel
     clear hb F6 F8 HA2 HC
     go_wp2_with(refine wpPr rfl 108 _ _ rfl (w.heap.size+1+1) (Iv .i64 (fI a b)) rfl rfl _ _ HZ.out (aT HRl.out) (eS HRl.out) (aG _ _) (fun W9 hP=>sH ?_))
     refine aH ?_
     have B9:=hP.below _ _ B8.out (by omega)
     have G9:=hP.here
     go_wp2
     exact bodyPost_ret (v:=.agg (Iv .i64 (fI a b))) (results_cell_row rfl _ _ _ _ (Iv .i64 (fI a b)) _ _ rfl G9 underlying108 rfl (aT HRl.out)) rfl ⟨rfl,B9⟩
theorem gW {w:World} {g:Nat} {k:IntKind} {x z:List Int} {t:TypeId} (h:w.heap[g]? =some (.cells (Iv k (x++z)) t)):w.rangeAt g 0 (x.map (Value.int k)):=by
 have h1:=fE (l:=(x++z).map (Value.int k)) (fr:=(0,0)) h 0 x.length
 rw[dY,←List.map_take,List.take_left]at h1
 exact h1
theorem gZ {w:World} {g:Nat} {k:IntKind} {x z:List Int} {t:TypeId} (n:Nat) (hn:x.length=n) (h:w.heap[g]? =some (.cells (Iv k (x++z)) t)):w.rangeAt g n (z.map (Value.int k)):=by
 subst hn
 have h1:=fE (l:=(x++z).map (Value.int k)) (fr:=(0,0)) h x.length z.length
 rw[←List.map_drop,List.drop_left,List.take_of_length_le (by simp)]at h1
 exact h1
theorem aV {P:Program} {ops:Array Oper} {rest:List Oper} {o:Oper} {a:Act} {w:World} {Q:Exit→Act→World→Prop} (hg:o.guard=none) (t:TypeId) (parts:Array (Nat×Operand)) (ho:o.op=.build t parts) (R:Array Value)
 (ps:List (Nat×Value)) (hp:(parts.map fun(i,x)=>(i,a.eval x)).toList=ps) (hb:P.built t ps=some R) (h:wpList P ops Q rest (a.put o.dst (.agg R)) w):wpList P ops Q (o::rest) a w:=
 wpList_build hg t parts ho (by rw[hp,hb];rfl) (by rw[hp,hb];exact h)
theorem acK:(prog.info? 110).map (·.size)=some 32:=by kernel_rfl
theorem dE {l:List Int} (h:l.length=32):(prog.info? 110).map (·.size)=some (Iv .i64 l).size:=by rw[aD,h];exact acK
theorem GD:∀W,(zeroValue 110).run prog W=.ok (.agg (Iv .i64 (aA 32))) W:=(zero_of_info (n:=32) (by kernel_rfl)).1
theorem kF {l:List Int} (h:l.length=32):(Iv .i64 (aA 32)).size=(Iv .i64 l).size:=by rw[aD,aD,h];rfl
theorem jJ {l:List Int} (h:l.length=16):(prog.info? 108).map (·.size)=some (l.map (Value.int .i64)).length:=by rw[lU,h];exact PP
theorem J8 (x z:List Int) (hx:x.length=16) (hz:z.length=16):prog.built 110 [(0,.agg (Iv .i64 x)),(1,.agg (Iv .i64 z))]=some (Iv .i64 (x++z)):=by
 obtain⟨a0,a1,a2,a3,a4,a5,a6,a7,a8,a9,a10,a11,a12,a13,a14,a15,rfl⟩:=gM x hx
 obtain⟨b0,b1,b2,b3,b4,b5,b6,b7,b8,b9,b10,b11,b12,b13,b14,b15,rfl⟩:=gM z hz
 kernel_rfl
theorem qT {a b:List Int} (ha:Dg a) (hb:Dg b):Dg (nO a b):=(sQ _ (J4 a b ha hb)).1
theorem nH {a b:List Int} (ha:Dg a) (hb:Dg b):Dg (nX a b):=(sQ _ (LP a b ha hb)).1
theorem gL {a b:List Int} (ha:Dg a) (hb:Dg b):Dg (fI a b):=(zD a b ha hb).1
theorem RK {a b:List Int} (ha:Dg a) (hb:Dg b):Dg (rS (BX a b)):=(sQ _ (KJ a b ha hb)).1
def sK (px pz qx qz:List Int):List Int:=fI (nO (fI (nX qx qz) (nO px pz)) (fI (nO qx qz) (nX px pz))) (nO (fI (nX qx qz) (nO px pz)) (fI (nO qx qz) (nX px pz)))
def sL (px pz qx qz u:List Int):List Int:=fI u (fI (nX (fI (nX qx qz) (nO px pz)) (fI (nO qx qz) (nX px pz))) (nX (fI (nX qx qz) (nO px pz)) (fI (nO qx qz) (nX px pz))))
def oM (x z:List Int):List Int:=fI (fI (nO x z) (nO x z)) (fI (nX x z) (nX x z))
def RH (x z:List Int):List Int:=nX (fI (nO x z) (nO x z)) (fI (nX x z) (nX x z))
def oO (x z:List Int):List Int:=fI (RH x z) (rS (BX (fI (nO x z) (nO x z)) (RH x z)))
theorem kL.sumX {px pz qx qz:List Int} {a b c d:Int} (h1:kL px a) (h2:kL pz b) (h3:kL qx c) (h4:kL qz d):kL (sK px pz qx qz) (sumX a b c d):=
 (((h3.sub h4).mul (h1.add h2)).add ((h3.add h4).mul (h1.sub h2))).mul (((h3.sub h4).mul (h1.add h2)).add ((h3.add h4).mul (h1.sub h2)))
theorem kL.sumZ {px pz qx qz u:List Int} {a b c d e:Int} (h1:kL px a) (h2:kL pz b) (h3:kL qx c) (h4:kL qz d) (h5:kL u e):kL (sL px pz qx qz u) (sumZ a b c d e):=
 h5.mul ((((h3.sub h4).mul (h1.add h2)).sub ((h3.add h4).mul (h1.sub h2))).mul (((h3.sub h4).mul (h1.add h2)).sub ((h3.add h4).mul (h1.sub h2))))
theorem kL.dblX {x z:List Int} {a b:Int} (h1:kL x a) (h2:kL z b):kL (oM x z) (dblX a b):=((h1.add h2).mul (h1.add h2)).mul ((h1.sub h2).mul (h1.sub h2))
theorem kL.dblE {x z:List Int} {a b:Int} (h1:kL x a) (h2:kL z b):kL (RH x z) (dblE a b):=((h1.add h2).mul (h1.add h2)).sub ((h1.sub h2).mul (h1.sub h2))
theorem kL.dblZ {x z:List Int} {a b:Int} (h1:kL x a) (h2:kL z b):kL (oO x z) (dblZ a b):=(h1.dblE h2).mul (((h1.add h2).mul (h1.add h2)).dub (h1.dblE h2))
def mP (l:List Int) (n:Nat):Int:=if n=255∨n<3 then 0 else if n=254 then 1 else l.getD (n / 8) 0 / 2^(n%8)%2
theorem XT (c:Int) (j:Nat):c / 2^j / 2=c / 2^(j+1):=by
 rw[Int.ediv_ediv_of_nonneg (Int.le_of_lt (Int.pow_pos (by decide))),Int.pow_succ]
theorem YK (c:Int) (j:Nat) (h:0≤c∧c≤255):0≤c / 2^j∧c / 2^j≤255:=by
 have hp:(0:Int)<2^j:=Int.pow_pos (by decide)
 refine⟨Int.ediv_nonneg h.1 (Int.le_of_lt hp),?_⟩
 exact Int.le_trans (Int.ediv_le_self _ h.1) h.2
set_option maxHeartbeats 4000000 in
theorem ZQ (l:List Int) (n:Nat) (hl:l.length=32) (hb:aE l) (hn:n≤255) (w:World):
 Calls prog 77 #[.agg (Iv .u8 l),.int .i64 n] w fun e w'=>e=.returned (.int .i64 (mP l n))∧Below w.heap.size w w':=by
 have HB:Hid (Below w.heap.size w (w.alloc (.cells (Iv .u8 l) 22))):=(Below.refl w.heap.size w).alloc (nQ _) _
 have hi:(n:Int)≤255:=by omega
 by_cases h1:n=255∨n<3
 ·have hv:mP l n=0:=by unfold mP;rw[if_pos h1]
  rw[hv]
  clear hv
  rcases h1 with rfl|h1
  ·go_enter func77,ntmps77
   go_wp2
   go_ret
   exact⟨rfl,HB.out⟩
  ·have h2:(n:Int)<3:=by omega
   have h3:((n:Int)==255)=false:=by simp;omega
   go_enter func77,ntmps77
   go_wp2
   go_ret
   exact⟨rfl,HB.out⟩
 ·by_cases h2:n=254
  ·subst h2
   have hv:mP l 254=1:=by unfold mP;rw[if_neg h1,if_pos rfl]
   rw[hv]
   clear hv
   go_enter func77,ntmps77
   go_wp2
   go_ret
   exact⟨rfl,HB.out⟩
  ·have hv:Hid (mP l n=l.getD (n / 8) 0 / 2^(n%8)%2):=by show _=_;unfold mP;rw[if_neg h1,if_neg h2]
   have h3:((n:Int)==255)=false:=by simp;omega
   have h4:((n:Int)==254)=false:=by simp;omega
   have h5:¬((n:Int)<3):=by omega
   have hc:(w.alloc (.cells (Iv .u8 l) 22)).cell? ⟨w.heap.size,n / 8,none⟩=some (.int .u8 (l.getD (n / 8) 0)):=aC.cell (show aC _ w.heap.size .u8 l _ from hAN _ _) (n / 8) (by omega)
   have hcb:=hb (n / 8)
   have hq:((n / 8:Nat):Int)=(n:Int) / 8:=by omega
   have hr:((n%8:Nat):Int)=(n:Int)%8:=by omega
   have HQ:Hid (∀j,0≤l.getD (n / 8) 0 / 2^j∧l.getD (n / 8) 0 / 2^j≤255):=fun j=>YK _ j hcb
   clear hb hl h1 h2
   obtain⟨z,ez⟩:∃z,l.getD (n / 8) 0=z:=⟨_,rfl⟩
   rw[ez]at hc hcb HQ hv
   clear ez
   go_enter func77,ntmps77
   go_wp2
   go_loopw [5,6] (fun c k wr=>∃j:Nat,j≤n%8∧c=.int .i64 (z / 2^j)∧k=.int .i64 ((n:Int)%8 - j)∧wr=w.alloc (.cells (Iv .u8 l) 22)) (fun _ k _=>(intOf k).toNat)
   case atStart=>exact⟨0,Nat.zero_le _,by simp,by simp,rfl⟩
   case round=>
    obtain⟨j,hj,rfl,rfl,rfl⟩:=hrel
    have hq2:=HQ.out j
    by_cases hk:j<n%8
    ·have hk0:0<(n:Int)%8 - j:=by omega
     have hk8:(n:Int)%8<8:=by omega
     have HH:Hid _:=XT z j
     obtain⟨y,ey⟩:∃y,z / 2^j=y:=⟨_,rfl⟩
     rw[ey]at hq2 HH⊢
     clear ey
     go_wp2
     go_roundw
     case rel=>exact⟨j+1,by omega,by rw[←HH.out],by go_num,by first|rfl|trivial⟩
     case measure=>simp[intOf];omega
    ·obtain rfl:j=n%8:=by omega
     have hk0:(n:Int)%8 - (n%8:Nat)=0:=by omega
     obtain⟨y,ey⟩:∃y,z / 2^(n%8)=y:=⟨_,rfl⟩
     rw[ey]at hq2 hv⊢
     clear ey
     rw[hk0]
     go_wp2
     go_ret
     exact⟨by rw[hv.out];rfl,HB.out⟩
end Go.Proofs.YtgcepckaolkeoaaGreatDoor
