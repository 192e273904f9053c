import Derived.Test.YtgcepckaolkeoaaGreatDoorMZ00
import Derived.Test.YtgcepckaolkeoaaGreatDoorRows
import Derived.Lib.LaidTab
import Derived.OpenShut
import Derived.OrdersHeld
import Derived.Deep.Quiet
namespace Go.Proofs.YtgcepckaolkeoaaGreatDoor
open Go.RowKit
open Go.Proofs.Tryz
open Go
open Go.World renaming block_lt_of_cell? → wJ
open List renaming length_set → lJ, setIfInBounds_toArray → sU
open Nat renaming lt_of_lt_of_le → nJ
set_option linter.unusedVariables false
def Y5 (a b x:Int):Int:=(a+b+x)%4294967296
theorem ZJ (a b x:Int):fP (Y5 a b x):=by unfold Y5 fP;omega
theorem ad7 (x:Int) (h:fP x):fP (rl 20 x)∧bits .or .u32 (x*1048576%4294967296) (x / 4096)=rl 20 x:=by
 obtain⟨h0,h1⟩:=h
 have e:rl 20 x=x / 4096+x%4096*1048576:=rfl
 rw[e,vS 20 _ _ (by decide) (by omega) (by omega) (by omega) (by omega) (by omega)]
 unfold fP
 omega
theorem ac1 (x:Int) (h:fP x):fP (rl 24 x)∧bits .or .u32 (x*16777216%4294967296) (x / 256)=rl 24 x:=by
 obtain⟨h0,h1⟩:=h
 have e:rl 24 x=x / 256+x%256*16777216:=rfl
 rw[e,vS 24 _ _ (by decide) (by omega) (by omega) (by omega) (by omega) (by omega)]
 unfold fP
 omega
theorem ac2 (x:Int) (h:fP x):fP (rl 25 x)∧bits .or .u32 (x*33554432%4294967296) (x / 128)=rl 25 x:=by
 obtain⟨h0,h1⟩:=h
 have e:rl 25 x=x / 128+x%128*33554432:=rfl
 rw[e,vS 25 _ _ (by decide) (by omega) (by omega) (by omega) (by omega) (by omega)]
 unfold fP
 omega
def gA1 (a b x:Int):Int:=Y5 a b x
def gD1 (a b d x:Int):Int:=rl 16 (xr d (gA1 a b x))
def gC1 (a b c d x:Int):Int:=ad c (gD1 a b d x)
def gB1 (a b c d x:Int):Int:=rl 20 (xr b (gC1 a b c d x))
def gA (a b c d x y:Int):Int:=Y5 (gA1 a b x) (gB1 a b c d x) y
def gD (a b c d x y:Int):Int:=rl 24 (xr (gD1 a b d x) (gA a b c d x y))
def gC (a b c d x y:Int):Int:=ad (gC1 a b c d x) (gD a b c d x y)
def gB (a b c d x y:Int):Int:=rl 25 (xr (gB1 a b c d x) (gC a b c d x y))
theorem acE (a b c d x y:Int):fP (gA a b c d x y):=ZJ _ _ _
theorem acH (a b c d x y:Int):fP (gD a b c d x y):=(ac1 _ (iP _ _)).1
theorem acG (a b c d x y:Int):fP (gC a b c d x y):=TL _ _
theorem acF (a b c d x y:Int):fP (gB a b c d x y):=(ac2 _ (iP _ _)).1
def qN (l:List Int) (a b c d:Nat) (x y:Int):List Int:=
 put4 l a b c d (gA (aK l a) (aK l b) (aK l c) (aK l d) x y) (gB (aK l a) (aK l b) (aK l c) (aK l d) x y) (gC (aK l a) (aK l b) (aK l c) (aK l d) x y) (gD (aK l a) (aK l b) (aK l c) (aK l d) x y)
def DS (r:Nat):List Nat:=
 match r with
 | 0=>[0,1,2,3,4,5,6,7,8,9,10,11,12,13,14,15]
 | 1=>[14,10,4,8,9,15,13,6,1,12,0,2,11,7,5,3]
 | 2=>[11,8,12,0,5,2,15,13,10,14,3,6,7,1,9,4]
 | 3=>[7,9,3,1,13,12,11,14,2,6,5,10,4,0,15,8]
 | 4=>[9,0,5,7,2,4,10,15,14,1,11,12,6,8,3,13]
 | 5=>[2,12,6,10,0,11,8,3,4,13,7,5,15,14,1,9]
 | 6=>[12,5,1,15,14,13,4,10,0,7,6,3,9,2,8,11]
 | 7=>[13,11,7,14,12,1,3,9,5,0,15,4,8,6,2,10]
 | 8=>[6,15,14,9,11,3,0,8,12,2,13,7,1,4,10,5]
 | _=>[10,2,8,4,7,6,1,5,15,11,9,14,3,12,13,0]
def sg (r i:Nat):Nat:=(DS r).getD i 0
theorem P6 (r i:Nat):sg r i<16:=by
 have h:∀r:Fin 10,∀i:Fin 16,sg r i<16:=by decide
 by_cases hi:i<16
 ·by_cases hr:r<9
  ·exact h ⟨r,by omega⟩ ⟨i,hi⟩
  ·have:sg r i=sg 9 i:=by
    unfold sg DS
    match r,hr with
    | 0,h=>omega
    | 1,h=>omega
    | 2,h=>omega
    | 3,h=>omega
    | 4,h=>omega
    | 5,h=>omega
    | 6,h=>omega
    | 7,h=>omega
    | 8,h=>omega
    | r+9,h=>rfl
   rw[this]
   exact h 9 ⟨i,hi⟩
 ·unfold sg
  have hl:(DS r).length=16:=by unfold DS;split<;>rfl
  rw[List.getD_eq_getElem?_getD,List.getElem?_eq_none (by omega)]
  decide
def jH (v m:List Int) (r:Nat):Nat→List Int
 | 0=>v
 | k+1=>qN (jH v m r k) (q0 k) (q1 k) (q2 k) (q3 k) (aK m (sg r (2*k))) (aK m (sg r (2*k+1)))
def cZ (v m:List Int):Nat→List Int
 | 0=>v
 | k+1=>jH (cZ v m k) m k 8
theorem EJ (l:List Int) (a b c d:Nat) (x y:Int):(qN l a b c d x y).length=l.length:=by unfold qN;rw[uA]
theorem jX (v m:List Int) (r:Nat):∀k,(jH v m r k).length=v.length
 | 0=>rfl
 | k+1=>by rw[jH,EJ,jX v m r k]
theorem jQ (v m:List Int):∀k,(cZ v m k).length=v.length
 | 0=>rfl
 | k+1=>by rw[cZ,jX,jQ v m k]
theorem QN {l:List Int} (h:bC l) (a b c d:Nat) (x y:Int):bC (qN l a b c d x y):=
 gR (gR (gR (gR h _ (acE _ _ _ _ _ _)) _ (acF _ _ _ _ _ _)) _ (acG _ _ _ _ _ _)) _ (acH _ _ _ _ _ _)
theorem xH {v:List Int} (h:bC v) (m:List Int) (r:Nat):∀k,bC (jH v m r k)
 | 0=>h
 | k+1=>QN (xH h m r k) _ _ _ _ _ _
theorem rN {v:List Int} (h:bC v) (m:List Int):∀k,bC (cZ v m k)
 | 0=>h
 | k+1=>xH (rN h m k) m k 8
def k8:List Int:=[1779033703,3144134277,1013904242,2773480762,1359893119,2600822924,528734635,1541459225]
theorem UX:bC k8:=by
 intro i
 match i with
 | 0=>exact(show fP 1779033703 from⟨by decide,by decide⟩)
 | 1=>exact(show fP 3144134277 from⟨by decide,by decide⟩)
 | 2=>exact(show fP 1013904242 from⟨by decide,by decide⟩)
 | 3=>exact(show fP 2773480762 from⟨by decide,by decide⟩)
 | 4=>exact(show fP 1359893119 from⟨by decide,by decide⟩)
 | 5=>exact(show fP 2600822924 from⟨by decide,by decide⟩)
 | 6=>exact(show fP 528734635 from⟨by decide,by decide⟩)
 | 7=>exact(show fP 1541459225 from⟨by decide,by decide⟩)
 | i+8=>exact⟨by simp[k8],by simp[k8]⟩
def D5 (h:List Int) (t:Nat):List Int:=(((h++k8).set 12 (xr 1359893119 (t%4294967296:Nat))).set 13 (xr 2600822924 (t / 4294967296:Nat)))
def sX (h:List Int) (t:Nat) (last:Bool):List Int:=if last then(D5 h t).set 14 (xr 528734635 4294967295)else D5 h t
theorem yO (h:List Int) (t:Nat) (hh:h.length=8):(D5 h t).length=16:=by simp[D5,hh,k8]
theorem yP (h:List Int) (t:Nat) (last:Bool) (hh:h.length=8):(sX h t last).length=16:=by
 unfold sX
 split
 ·rw[lJ,yO h t hh]
 ·exact yO h t hh
theorem IS {a b:List Int} (ha:bC a) (hb:bC b):bC (a++b):=by
 intro i
 simp only[List.getD_eq_getElem?_getD,List.getElem?_append]
 split
 ·exact ha i
 ·exact hb (i - a.length)
theorem MM {h:List Int} (hh:bC h) (t:Nat):bC (D5 h t):=
 gR (gR (IS hh UX) _ (iP _ _)) _ (iP _ _)
theorem MN {h:List Int} (hh:bC h) (t:Nat) (last:Bool):bC (sX h t last):=by
 unfold sX
 split
 ·exact gR (MM hh t) _ (iP _ _)
 ·exact MM hh t
def lL (h v:List Int) (i:Nat):Int:=xr (aK h i) (xr (aK v i) (aK v (i+8)))
theorem JK (a b:Int) (ha:fP a) (hb:fP b):xr a b=((a.toNat^^^b.toNat:Nat):Int):=by
 unfold xr
 obtain⟨x,rfl⟩:=Int.eq_ofNat_of_zero_le ha.1
 obtain⟨y,rfl⟩:=Int.eq_ofNat_of_zero_le hb.1
 have hx:x<2^32:=by have:=ha.2;omega
 have hy:y<2^32:=by have:=hb.2;omega
 have h:=Nat.xor_lt_two_pow hx hy
 have hx':x%2^IntKind.u32.bits=x:=Nat.mod_eq_of_lt hx
 have hy':y%2^IntKind.u32.bits=y:=Nat.mod_eq_of_lt hy
 simp only[bits,BitVec.ofInt_natCast,BitVec.toNat_xor,BitVec.toNat_ofNat,hx',hy',Int.toNat_natCast]
 exact wN _ (Int.natCast_nonneg _) (by exact_mod_cast h)
theorem WE (a b c:Int) (ha:fP a) (hb:fP b) (hc:fP c):xr (xr a b) c=xr a (xr b c):=by
 rw[JK _ c (iP _ _) hc,JK a _ ha (iP _ _),JK a b ha hb,JK b c hb hc]
 simp only[Int.toNat_natCast,Nat.xor_assoc]
def jL (h m:List Int) (t:Nat) (last:Bool):List Int:=(List.range 8).map (lL h (cZ (sX h t last) m 10))
theorem pO (h m:List Int) (t:Nat) (last:Bool):(jL h m t last).length=8:=by simp[jL]
theorem DW (h m:List Int) (t:Nat) (last:Bool):bC (jL h m t last):=by
 intro i
 unfold jL
 simp only[List.getD_eq_getElem?_getD,List.getElem?_map]
 by_cases hi:i<8
 ·rw[List.getElem?_range hi]
  exact iP _ _
 ·rw[List.getElem?_eq_none (by simpa using hi)]
  exact(show fP 0 from⟨by decide,by decide⟩)
def gQ (D:List Int):List Int:=(List.range 16).map (aF D)
def jE (h:List Int) (D:List Int):Nat→List Int
 | 0=>h
 | k+1=>jL (jE h D k) (gQ ((D.drop (64*k)).take 64)) (64*(k+1)) false
theorem iH (h D:List Int) (hh:h.length=8):∀k,(jE h D k).length=8
 | 0=>hh
 | k+1=>pO _ _ _ _
theorem zH {h:List Int} (hh:bC h) (D:List Int):∀k,bC (jE h D k)
 | 0=>hh
 | k+1=>DW _ _ _ _
def vR (n:Nat):Nat:=(n - 1) / 64
def KU (h D:List Int):List Int:=jL (jE h D (vR D.length)) (gQ (D.drop (64*vR D.length))) D.length true
def iS (n k:Nat):List Int:=k8.set 0 (xr 1779033703 (xr (xr 16842752 (k*256:Nat)) n))
theorem m5 (n k:Nat):(iS n k).length=8:=by simp[iS,k8]
theorem uT (n k:Nat):bC (iS n k):=gR UX _ (iP _ _)
theorem AG (h D E:List Int):∀k,64*k≤D.length→jE h (D++E) k=jE h D k
 | 0,_=>rfl
 | k+1,hk=>by
   rw[jE,jE,AG h D E k (by omega)]
   congr 2
   rw[List.drop_append_of_le_length (by omega),List.take_append_of_le_length (by simp;omega)]
theorem WO (a b x:Int):Y5 a b x=(a+(b+x)%4294967296)%4294967296:=by unfold Y5;omega
theorem abT (x:Int) (w:World) (h:fP x):Calls prog 156 #[.int .u32 x,.int .i64 (-16)] w fun e w'=>e=.returned (.int .u32 (rl 16 x))∧w'=w:=by
 have hr:=(ac0 x h).2
 have hm:bits .and .u64 (IntKind.u64.wrap (-16)) 31=16:=by kernel_rfl
 obtain⟨h0,h1⟩:=h
 go_enter func156,ntmps156
 go_wp2
 go_ret
 exact⟨rfl,rfl⟩
theorem abS (x:Int) (w:World) (h:fP x):Calls prog 156 #[.int .u32 x,.int .i64 (-12)] w fun e w'=>e=.returned (.int .u32 (rl 20 x))∧w'=w:=by
 have hr:=(ad7 x h).2
 have hm:bits .and .u64 (IntKind.u64.wrap (-12)) 31=20:=by kernel_rfl
 obtain⟨h0,h1⟩:=h
 go_enter func156,ntmps156
 go_wp2
 go_ret
 exact⟨rfl,rfl⟩
theorem adE (x:Int) (w:World) (h:fP x):Calls prog 156 #[.int .u32 x,.int .i64 (-8)] w fun e w'=>e=.returned (.int .u32 (rl 24 x))∧w'=w:=by
 have hr:=(ac1 x h).2
 have hm:bits .and .u64 (IntKind.u64.wrap (-8)) 31=24:=by kernel_rfl
 obtain⟨h0,h1⟩:=h
 go_enter func156,ntmps156
 go_wp2
 go_ret
 exact⟨rfl,rfl⟩
theorem adD (x:Int) (w:World) (h:fP x):Calls prog 156 #[.int .u32 x,.int .i64 (-7)] w fun e w'=>e=.returned (.int .u32 (rl 25 x))∧w'=w:=by
 have hr:=(ac2 x h).2
 have hm:bits .and .u64 (IntKind.u64.wrap (-7)) 31=25:=by kernel_rfl
 obtain⟨h0,h1⟩:=h
 go_enter func156,ntmps156
 go_wp2
 go_ret
 exact⟨rfl,rfl⟩
set_option maxHeartbeats 1000000 in
theorem IU (a b c d x y:Int) (w:World) (ha:fP a) (hb:fP b) (hc:fP c) (hd:fP d) (hx:fP x) (hy:fP y):
 Calls prog 143 #[.int .u32 a,.int .u32 b,.int .u32 c,.int .u32 d,.int .u32 x,.int .u32 y] w fun e w'=>e=.returned (.tuple #[.int .u32 (gA a b c d x y),.int .u32 (gB a b c d x y),.int .u32 (gC a b c d x y),.int .u32 (gD a b c d x y)])∧w'=w:=by
 go_enter func143,ntmps143
 go_wp2_with fail
 refine(abT _ _ (iP _ _)).mono ?_
 rintro e w1 ⟨rfl,rfl⟩
 go_wp2_with fail
 refine(abS _ _ (iP _ _)).mono ?_
 rintro e w1 ⟨rfl,rfl⟩
 go_wp2_with fail
 refine(adE _ _ (iP _ _)).mono ?_
 rintro e w1 ⟨rfl,rfl⟩
 go_wp2_with fail
 refine(adD _ _ (iP _ _)).mono ?_
 rintro e w1 ⟨rfl,rfl⟩
 go_wp2_with fail
 refine bodyPost_ret (v:=.tuple #[.int .u32 _,.int .u32 _,.int .u32 _,.int .u32 _]) (by simp[results,results143,go_sem,gA,gB,gC,gD,gA1,gB1,gC1,gD1,WO,ad]) rfl ⟨rfl,rfl⟩
theorem DK:prog.follows .mixedOrders=true:=by kernel_rfl
theorem xZ:(prog.info? 177).map (·.size)=some 16:=by kernel_rfl
theorem PK:(prog.info? 174).map (·.size)=some 8:=by kernel_rfl
theorem yY:(prog.info? 184).map (·.size)=some 74:=by kernel_rfl
structure dU (w:World):Prop where
 mix:∀i,i<8→w.cell? ⟨2,i*4,none⟩=some (.int .u8 (q0 i))∧w.cell? ⟨2,i*4+1,none⟩=some (.int .u8 (q1 i))∧w.cell? ⟨2,i*4+2,none⟩=some (.int .u8 (q2 i))∧w.cell? ⟨2,i*4+3,none⟩=some (.int .u8 (q3 i))
 iv:∀i,i<8→w.cell? ⟨1,i,none⟩=some (.int .u32 (aK k8 i))
 order:∀r i,r<10→i<16→w.cell? ⟨3,r*16+i,none⟩=some (.int .u8 (sg r i))
theorem dU.later {B:Nat} {w w':World} (h:dU w) (hb:Below B w w') (hB:w.heap.size≤B):dU w':=by
 refine⟨fun i hi=>?_,fun i hi=>?_,fun r i hr hi=>?_⟩
 ·obtain⟨t0,t1,t2,t3⟩:=h.mix i hi
  have l0:=wJ _ _ t0
  exact⟨(hb.cell (p:=⟨2,i*4,none⟩) (nJ l0 hB)).trans t0,(hb.cell (p:=⟨2,i*4+1,none⟩) (nJ l0 hB)).trans t1,(hb.cell (p:=⟨2,i*4+2,none⟩) (nJ l0 hB)).trans t2,(hb.cell (p:=⟨2,i*4+3,none⟩) (nJ l0 hB)).trans t3⟩
 ·have t:=h.iv i hi
  exact(hb.cell (p:=⟨1,i,none⟩) (nJ (wJ _ _ t) hB)).trans t
 ·have t:=h.order r i hr hi
  exact(hb.cell (p:=⟨3,r*16+i,none⟩) (nJ (wJ _ _ t) hB)).trans t
section
variable {P:Program} {ops:Array Oper} {Q:Exit→Act→World→Prop} {md:Region.Mode} {S1:World→Prop} {W:World} {n0:Nat}
def mM (S1:World→Prop) (W:World) (n0:Nat) (listed:Array Bool) (w:World):Prop:=S1 w∧(listed.getD n0 false=false→w=W)
def pT (P:Program) (md:Region.Mode) (ops:Array Oper) (Q:Exit→Act→World→Prop) (S1:World→Prop) (W:World) (n0:Nat):Nat→Array Bool→Act→World→Prop
 | 0,listed,a,w=>Region.ready md ops listed=[]∧Q .normal a w
 | fuel+1,listed,a,w=>
   (Region.ready md ops listed=[]→Q .normal a w)∧
   ∀i∈Region.ready md ops listed,wpOp P ops Q i (fun a' w'=>mM S1 W n0 (listed.setIfInBounds i true) w'∧pT P md ops Q S1 W n0 fuel (listed.setIfInBounds i true) a' w') a w
theorem vZ:∀(fuel:Nat) (listed:Array Bool) (a:Act) (w:World),pT P md ops Q S1 W n0 fuel listed a w→wpAny P md ops Q fuel listed a w
 | 0,_,_,_,h=>h
 | fuel+1,_,_,_,h=>⟨h.1,fun i hi=>wpOp_mono (fun a' w' h'=>vZ fuel _ a' w' h'.2) (h.2 i hi)⟩
theorem fF {listed:Array Bool} {i:Nat} {w:World} (hi:i≠n0):mM S1 W n0 (listed.setIfInBounds i true) w↔mM S1 W n0 listed w:=by
 unfold mM
 rw[getD_set_ne false hi]
theorem AJ {i:Nat} {oi:Oper} {v:Value} (hi:ops[i]? =some oi) (hin:i≠n0) (hsel:∀(j:Nat) (o:Oper) cs b,ops[j]? =some o→o.op≠ .select cs b)
 (hQ:∀c a w,Q (.panic c) (a.put oi.dst v) w→Q (.panic c) a w):
 ∀(fuel:Nat) (listed:Array Bool) (a:Act) (w:World),
  (∀j oj,ops[j]? =some oj→j≠i→listed.getD j true=false→(∀e∈oj.after,Region.binds md e=true→e.on≠i)→oi.apart ops oj=true)→
  i∈Region.ready md ops listed→YieldsIf P ops S1 oi v a→mM S1 W n0 listed w→
  pT P md ops Q S1 W n0 fuel (listed.setIfInBounds i true) (a.put oi.dst v) w→pT P md ops Q S1 W n0 (fuel+1) listed a w:=by
 intro fuel
 induction fuel with
 | zero=>
   intro listed a w _ hr hy hS H
   refine⟨fun h=>(by rw[h]at hr;cases hr),fun j hj=>?_⟩
   by_cases hji:j=i
   ·subst hji;exact hy.wpOp hi hS.1 ⟨(fF hin).2 hS,H⟩
   ·have:=ready_mono hj hji
    rw[H.1]at this
    cases this
 | succ fuel ih=>
   intro listed a w hfree hr hy hS H
   refine⟨fun h=>(by rw[h]at hr;cases hr),fun j hj=>?_⟩
   by_cases hji:j=i
   ·subst hji;exact hy.wpOp hi hS.1 ⟨(fF hin).2 hS,H⟩
   ·have h1:=H.2 j (ready_mono hj hji)
    obtain⟨hjun,oj,hoj,hall⟩:=mem_ready.1 hj
    have hnot:∀e∈oj.after,Region.binds md e=true→e.on≠i:=fun e he hb heq=>by
     have h1:=hall e he hb
     have h0:=(mem_ready.1 hr).1
     rw[heq,getD_both h0]at h1
     cases h1
    have h2:=wpOp_putIf hoj (hfree j oj hoj hji hjun hnot) (fun cs b=>hsel i oi cs b hi) (fun cs b=>hsel j oj cs b hoj) hQ hy h1
    have hfree':∀k ok,ops[k]? =some ok→k≠i→(listed.setIfInBounds j true).getD k true=false→
     (∀e∈ok.after,Region.binds md e=true→e.on≠i)→oi.apart ops ok=true:=fun k ok hk hki hun hno=>by
     refine hfree k ok hk hki ?_ hno
     by_cases hjk:j=k
     ·subst hjk;exact hjun
     ·rw[getD_set_ne true hjk]at hun;exact hun
    refine wpOp_mono (fun a' w' h3=>?_) h2
    have h4:=h3.2.1
    rw[Array.setIfInBounds_comm _ _ (Ne.symm hji)]at h4
    have h5:=(fF hin).1 h4
    refine⟨h5,ih (listed.setIfInBounds j true) a' w' hfree' (ready_mono hr (Ne.symm hji)) h3.1 h5 ?_⟩
    rw[Array.setIfInBounds_comm _ _ hji]
    exact h3.2.2
def vT (md:Region.Mode) (ops:Array Oper):Nat→List Nat→Bool
 | _,[]=>true
 | i,k::ks=>Region.waitsFor md ops k i&&vT md ops k ks
theorem rD {md:Region.Mode} {ops:Array Oper}:∀(path:List Nat) (i:Nat),vT md ops i path=true→∀k∈path,∃p,(p=i∨p∈path)∧Region.waitsFor md ops k p=true
 | [],_,_,k,hk=>by cases hk
 | j::ks,i,h,k,hk=>by
   simp only[vT,Bool.and_eq_true]at h
   rcases List.mem_cons.1 hk with rfl|hk
   ·exact⟨i,.inl rfl,h.1⟩
   ·obtain⟨p,hp,hw⟩:=rD ks j h.2 k hk
    exact⟨p,.inr (by rcases hp with rfl|hp<;>simp[*]),hw⟩
def kM (md:Region.Mode) (ops:Array Oper) (n0:Nat):Nat→Nat→List Nat
 | 0,_=>[]
 | f+1,i=>if Region.waitsFor md ops n0 i then[n0]else
    match(List.range ops.size).find? (fun j=>decide (i<j)&&Region.waitsFor md ops j i)with
    | some j=>j::kM md ops n0 f j
    | none=>[]
theorem yS {i:Nat} {oi:Oper} {v:Value} (hi:ops[i]? =some oi) (hin:i≠n0) (path:List Nat) (hpath:vT md ops i path=true) (hn0:n0∈path) (hsel:∀(j:Nat) (o:Oper) cs b,ops[j]? =some o→o.op≠ .select cs b)
 (hQ:∀c a w,Q (.panic c) (a.put oi.dst v) w→Q (.panic c) a w):
 ∀(fuel:Nat) (listed:Array Bool) (a:Act) (w:World),
  (∀j oj,ops[j]? =some oj→j≠i→listed.getD j true=false→(∀e∈oj.after,Region.binds md e=true→e.on≠i)→oi.apart ops oj=true)→
  i∈Region.ready md ops listed→YieldsIf P ops (fun w'=>w'=W) oi v a→mM S1 W n0 listed w→(∀k∈path,listed.getD k false=false)→
  pT P md ops Q S1 W n0 fuel (listed.setIfInBounds i true) (a.put oi.dst v) w→pT P md ops Q S1 W n0 (fuel+1) listed a w:=by
 intro fuel
 induction fuel with
 | zero=>
   intro listed a w _ hr hy hS hun0 H
   refine⟨fun h=>(by rw[h]at hr;cases hr),fun j hj=>?_⟩
   by_cases hji:j=i
   ·subst hji;exact hy.wpOp hi (hS.2 (hun0 _ hn0)) ⟨(fF hin).2 hS,H⟩
   ·have:=ready_mono hj hji
    rw[H.1]at this
    cases this
 | succ fuel ih=>
   intro listed a w hfree hr hy hS hun0 H
   refine⟨fun h=>(by rw[h]at hr;cases hr),fun j hj=>?_⟩
   by_cases hji:j=i
   ·subst hji;exact hy.wpOp hi (hS.2 (hun0 _ hn0)) ⟨(fF hin).2 hS,H⟩
   ·have h1:=H.2 j (ready_mono hj hji)
    obtain⟨hjun,oj,hoj,hall⟩:=mem_ready.1 hj
    have hiun:=(mem_ready.1 hr).1
    have hnot:∀e∈oj.after,Region.binds md e=true→e.on≠i:=fun e he hb heq=>by
     have h1:=hall e he hb
     rw[heq,getD_both hiun]at h1
     cases h1
    have hjn:∀k∈path,j≠k:=by
     intro k hk hjk
     subst hjk
     obtain⟨p,hp,hw⟩:=rD path i hpath j hk
     obtain⟨o',ho',e,he,hb,hon⟩:=Region.waitsFor_spec hw
     have:o'=oj:=Option.some.inj (ho'.symm.trans hoj)
     subst this
     rcases hp with rfl|hp
     ·exact hnot e he hb hon
     ·have h3:=hall e he hb
      rw[hon,hun0 p hp]at h3
      cases h3
    have h2:=wpOp_putIf hoj (hfree j oj hoj hji hjun hnot) (fun cs b=>hsel i oi cs b hi) (fun cs b=>hsel j oj cs b hoj) hQ hy h1
    have hfree':∀k ok,ops[k]? =some ok→k≠i→(listed.setIfInBounds j true).getD k true=false→
     (∀e∈ok.after,Region.binds md e=true→e.on≠i)→oi.apart ops ok=true:=fun k ok hk hki hun hno=>by
     refine hfree k ok hk hki ?_ hno
     by_cases hjk:j=k
     ·subst hjk;exact hjun
     ·rw[getD_set_ne true hjk]at hun;exact hun
    refine wpOp_mono (fun a' w' h3=>?_) h2
    have h4:=h3.2.1
    rw[Array.setIfInBounds_comm _ _ (Ne.symm hji)]at h4
    have h5:=(fF hin).1 h4
    refine⟨h5,ih (listed.setIfInBounds j true) a' w' hfree' (ready_mono hr (Ne.symm hji)) h3.1 h5 (fun k hk=>by rw[getD_set_ne false (hjn k hk)];exact hun0 k hk) ?_⟩
    rw[Array.setIfInBounds_comm _ _ hji]
    exact h3.2.2
def yF:Op→Bool
 | .move _| .assign _| .load .. | .indexAddr .. | .extract .. | .binOp .. | .unOp .. | .convert .. | .slice .. | .fieldAddr .. | .field .. | .index .. | .sliceToArrayPointer .. | .build .. =>true
 | _=>false
theorem nO {o:Oper} (h:yF o.op=true) {ρ:Operand→Value} {w w':World} {n:Next} (hr:(execOp ρ o).run P w=.ok n w'):∃v,n=.value v:=by
 unfold execOp at hr
 unfold yF at h
 split at h
 case h_15=>cases h
 all_goals
  rename_i hop
  simp only[hop]at hr
  first
   | (rw[Sem.run_pure]at hr;cases hr;exact⟨_,rfl⟩)
   | (rw[Sem.run_bind]at hr
      generalize Sem.run P _ w=r at hr
      cases r with
      | ok u w''=>simp only[Result.andThen_ok,Sem.run_pure]at hr;cases hr;exact⟨_,rfl⟩
      | halt x w''=>simp only[Result.andThen]at hr;cases hr)
def dH (K:Act→World→Prop) (Q:Exit→Act→World→Prop):Exit→Act→World→Prop
 | .normal,a,w=>K a w
 | e,a,w=>Q e a w
theorem aX {k:Nat} {o:Oper} {K:Act→World→Prop} {a:Act} {w:World} (ho:ops[k]? =some o) (h:wpList P ops (dH K Q) [o] a w):wpOp P ops Q k K a w:=by
 unfold wpOp
 simp only[ho]
 unfold wpList at h
 split
 ·rename_i hw
  simp only[hw,if_true]at h
  rcases h with h|⟨h1,h2⟩
  ·refine .inl ?_
   unfold Oper.wp at*
   generalize(execOp a.eval o).run P w=r at*
   cases r with
   | ok n w'=>
     cases n<;>simp only[Oper.upon]at h⊢
     case value u=>exact h
     case skip=>exact h
     case defer d=>exact h
     case enter f args=>
      refine Calls.mono h fun e w'' he=>?_
      cases e with
      | returned u=>exact he
      | panicked c=>exact he
      | outgrown=>exact he
     case row row args=>exact Rows.mono h fun u w'' he=>he
   | halt x w'=>
     cases x<;>simp only[Oper.upon]at h⊢
     case panic u=>exact h
  ·exact .inr ⟨h1,h2⟩
 ·rename_i hw
  simp only[hw]at h
  exact h
inductive Tag
 | held|exact|only|tail
def bO (ops:Array Oper) (ks:List Nat):List Oper:=ks.filterMap (ops[·]?)
def iO (P:Program) (ops:Array Oper) (Q:Exit→Act→World→Prop) (S1:World→Prop) (W:World):List (Tag×List Nat)→Act→World→Prop
 | [],a,w=>Q .normal a w
 | (.held,ks)::r,a,w=>wpQuiet P ops S1 (fun a'=>iO P ops Q S1 W r a' w) (bO ops ks) a
 | (.exact,ks)::r,a,w=>wpQuiet P ops (fun w'=>w'=W) (fun a'=>iO P ops Q S1 W r a' w) (bO ops ks) a
 | (.only,ks)::r,a,w=>wpList P ops (dH (fun a' w'=>w'=W∧iO P ops Q S1 W r a' w') Q) (bO ops ks) a w
 | (.tail,ks)::r,a,w=>wpList P ops (dH (fun a' w'=>S1 w'∧iO P ops Q S1 W r a' w') Q) (bO ops ks) a w
def sF (ops:Array Oper) (k:Nat):Bool:=match ops[k]? with|some o=>yF o.op|none=>false
def yN (md:Region.Mode) (ops:Array Oper) (n0:Nat) (ex:Bool):List Nat→Array Bool→Bool
 | [],_=>true
 | k::ks,listed=>(Region.ready md ops listed).contains k&&Region.free md ops listed k&&sF ops k&&(k !=n0)&&(!ex||(vT md ops k (kM md ops n0 ops.size k)&&(kM md ops n0 ops.size k).contains n0&&(kM md ops n0 ops.size k).all (fun j=> !(listed.getD j false))))&&yN md ops n0 ex ks (listed.setIfInBounds k true)
def lX:List Nat→Array Bool→Array Bool
 | [],listed=>listed
 | k::ks,listed=>lX ks (listed.setIfInBounds k true)
def uC (md:Region.Mode) (ops:Array Oper) (n0:Nat):List (Tag×List Nat)→Array Bool→Bool
 | [],listed=>(Region.ready md ops listed).isEmpty
 | (.held,ks)::r,listed=>yN md ops n0 false ks listed&&uC md ops n0 r (lX ks listed)
 | (.exact,ks)::r,listed=>yN md ops n0 true ks listed&&uC md ops n0 r (lX ks listed)
 | (.only,[k])::r,listed=>decide (Region.ready md ops listed=[k])&&(k !=n0)&& !(listed.getD n0 false)&&uC md ops n0 r (listed.setIfInBounds k true)
 | (.tail,[k])::r,listed=>decide (Region.ready md ops listed=[k])&&(k==n0||listed.getD n0 false)&&uC md ops n0 r (listed.setIfInBounds k true)
 | _,_=>false
def oQ:List (Tag×List Nat)→Nat
 | []=>0
 | (_,ks)::r=>ks.length+oQ r
theorem xC (hs:Region.noSelect ops=true) (hQ:∀c a d v w,Q (.panic c) (a.put d v) w→Q (.panic c) a w) (n:Nat):∀(ks:List Nat) (listed:Array Bool) (a:Act) (w:World),yN md ops n0 false ks listed=true→mM S1 W n0 listed w→
 wpQuiet P ops S1 (fun a'=>pT P md ops Q S1 W n0 n (lX ks listed) a' w) (bO ops ks) a→pT P md ops Q S1 W n0 (ks.length+n) listed a w
 | [],listed,a,w,_,_,h=>by rw[List.length_nil,Nat.zero_add];exact h
 | k::ks,listed,a,w,hB,hS,h=>by
   simp only[yN,Bool.and_eq_true,bne_iff_ne,ne_eq]at hB
   obtain⟨⟨⟨⟨⟨hr,hf⟩,hp⟩,hk⟩,_⟩,hB'⟩:=hB
   unfold sF at hp
   split at hp
   ·rename_i o ho
    have hops:bO ops (k::ks)=o::bO ops ks:=by simp[bO,ho]
    rw[hops]at h
    unfold wpQuiet at h
    rw[show(k::ks).length+n=(ks.length+n)+1 by simp;omega]
    by_cases hw:Region.wanted o (yielded ops a.tmps)=true
    ·simp only[hw,if_true]at h
     obtain⟨v,h1,h2⟩:=h
     refine AJ ho hk (Region.noSelect_spec hs) (fun c a w=>hQ c a _ _ w) _ listed a w (Region.free_spec ho hf) (by simpa using hr) (.inl ⟨hw,fun w' hw'=>?_⟩) hS (xC hs hQ n ks _ _ w hB' ((fF hk).2 hS) h2)
     have h3:=h1 w' hw'
     unfold Oper.quietAt at h3
     generalize hrun:(execOp a.eval o).run P w'=r at h3
     cases r with
     | ok m w''=>
       obtain⟨u,rfl⟩:=nO hp hrun
       simp only[Oper.quietUpon]at h3
       rw[h3.1,h3.2]
     | halt x w''=>simp only[Oper.quietUpon]at h3
    ·simp only[hw]at h
     exact AJ ho hk (Region.noSelect_spec hs) (fun c a w=>hQ c a _ _ w) _ listed a w (Region.free_spec ho hf) (by simpa using hr) (.inr ⟨by simpa using hw,rfl⟩) hS (xC hs hQ n ks _ _ w hB' ((fF hk).2 hS) h)
   ·cases hp
theorem uL (hs:Region.noSelect ops=true) (hQ:∀c a d v w,Q (.panic c) (a.put d v) w→Q (.panic c) a w) (n:Nat):∀(ks:List Nat) (listed:Array Bool) (a:Act) (w:World),yN md ops n0 true ks listed=true→mM S1 W n0 listed w→
 wpQuiet P ops (fun w'=>w'=W) (fun a'=>pT P md ops Q S1 W n0 n (lX ks listed) a' w) (bO ops ks) a→pT P md ops Q S1 W n0 (ks.length+n) listed a w
 | [],listed,a,w,_,_,h=>by rw[List.length_nil,Nat.zero_add];exact h
 | k::ks,listed,a,w,hB,hS,h=>by
   simp only[yN,Bool.and_eq_true,bne_iff_ne,ne_eq,Bool.not_true,Bool.false_or,List.contains_eq_mem,decide_eq_true_eq,List.all_eq_true,Bool.not_eq_true']at hB
   obtain⟨⟨⟨⟨⟨hr,hf⟩,hp⟩,hk⟩,⟨hw0,hn0⟩,hun⟩,hB'⟩:=hB
   unfold sF at hp
   split at hp
   ·rename_i o ho
    have hops:bO ops (k::ks)=o::bO ops ks:=by simp[bO,ho]
    rw[hops]at h
    unfold wpQuiet at h
    rw[show(k::ks).length+n=(ks.length+n)+1 by simp;omega]
    by_cases hw:Region.wanted o (yielded ops a.tmps)=true
    ·simp only[hw,if_true]at h
     obtain⟨v,h1,h2⟩:=h
     refine yS ho hk _ hw0 hn0 (Region.noSelect_spec hs) (fun c a w=>hQ c a _ _ w) _ listed a w (Region.free_spec ho hf) (by simpa using hr) (.inl ⟨hw,fun w' hw'=>?_⟩) hS hun (uL hs hQ n ks _ _ w hB' ((fF hk).2 hS) h2)
     have h3:=h1 w' hw'
     unfold Oper.quietAt at h3
     generalize hrun:(execOp a.eval o).run P w'=r at h3
     cases r with
     | ok m w''=>
       obtain⟨u,rfl⟩:=nO hp hrun
       simp only[Oper.quietUpon]at h3
       rw[h3.1,h3.2]
     | halt x w''=>simp only[Oper.quietUpon]at h3
    ·simp only[hw]at h
     exact yS ho hk _ hw0 hn0 (Region.noSelect_spec hs) (fun c a w=>hQ c a _ _ w) _ listed a w (Region.free_spec ho hf) (by simpa using hr) (.inr ⟨by simpa using hw,rfl⟩) hS hun (uL hs hQ n ks _ _ w hB' ((fF hk).2 hS) h)
   ·cases hp
theorem i4 {C:World→Prop} {R R':Act→Prop} (h:∀a,R a→R' a):∀(l:List Oper) (a:Act),wpQuiet P ops C R l a→wpQuiet P ops C R' l a
 | [],a,hh=>h a hh
 | o::l,a,hh=>by
   unfold wpQuiet at*
   split
   ·rename_i hw
    simp only[hw,if_true]at hh
    exact Oper.quiet_mono (fun a' h'=>i4 h l a' h') hh
   ·rename_i hw
    simp only[hw]at hh
    exact i4 h l _ hh
theorem uE {ex:Bool} {w:World}:∀(ks:List Nat) (listed:Array Bool),yN md ops n0 ex ks listed=true→mM S1 W n0 listed w→mM S1 W n0 (lX ks listed) w
 | [],_,_,h=>h
 | k::ks,listed,hB,h=>by
   simp only[yN,Bool.and_eq_true,bne_iff_ne,ne_eq]at hB
   exact uE ks _ hB.2 ((fF hB.1.1.2).2 h)
theorem pN (hs:Region.noSelect ops=true) (hQ:∀c a d v w,Q (.panic c) (a.put d v) w→Q (.panic c) a w):∀(runs:List (Tag×List Nat)) (listed:Array Bool) (a:Act) (w:World),uC md ops n0 runs listed=true→mM S1 W n0 listed w→
 iO P ops Q S1 W runs a w→pT P md ops Q S1 W n0 (oQ runs) listed a w
 | [],listed,a,w,hB,_,h=>by
   simp only[uC,List.isEmpty_iff]at hB
   exact⟨hB,h⟩
 | (.held,ks)::r,listed,a,w,hB,hS,h=>by
   simp only[uC,Bool.and_eq_true]at hB
   refine xC hs hQ _ ks listed a w hB.1 hS (i4 (fun a' h'=>?_) _ _ h)
   refine pN hs hQ r _ a' w hB.2 ?_ h'
   exact uE ks listed hB.1 hS
 | (.exact,ks)::r,listed,a,w,hB,hS,h=>by
   simp only[uC,Bool.and_eq_true]at hB
   refine uL hs hQ _ ks listed a w hB.1 hS (i4 (fun a' h'=>?_) _ _ h)
   refine pN hs hQ r _ a' w hB.2 ?_ h'
   exact uE ks listed hB.1 hS
 | (.only,[k])::r,listed,a,w,hB,hS,h=>by
   simp only[uC,Bool.and_eq_true,decide_eq_true_eq,bne_iff_ne,ne_eq,Bool.not_eq_true']at hB
   obtain⟨⟨⟨hr,hk⟩,hun⟩,hB'⟩:=hB
   rw[show oQ ((Tag.only,[k])::r)=oQ r+1 by simp[oQ];omega]
   refine⟨fun h0=>(by rw[hr]at h0;cases h0),fun i hi=>?_⟩
   rw[hr]at hi
   obtain rfl:i=k:=by simpa using hi
   obtain⟨_,o,ho,_⟩:=mem_ready.1 (show i∈Region.ready md ops listed by rw[hr];simp)
   have hops:bO ops [i]=[o]:=by simp[bO,ho]
   simp only[iO,hops]at h
   refine wpOp_mono (fun a' w' h'=>?_) (aX ho h)
   have hl:mM S1 W n0 (listed.setIfInBounds i true) w':=by
    refine(fF hk).2 ⟨?_,fun _=>h'.1⟩
    rw[h'.1,←hS.2 hun]
    exact hS.1
   exact⟨hl,pN hs hQ r _ a' w' hB' hl h'.2⟩
 | (.tail,[k])::r,listed,a,w,hB,hS,h=>by
   simp only[uC,Bool.and_eq_true,decide_eq_true_eq,Bool.or_eq_true,beq_iff_eq]at hB
   obtain⟨⟨hr,hk⟩,hB'⟩:=hB
   rw[show oQ ((Tag.tail,[k])::r)=oQ r+1 by simp[oQ];omega]
   refine⟨fun h0=>(by rw[hr]at h0;cases h0),fun i hi=>?_⟩
   rw[hr]at hi
   obtain rfl:i=k:=by simpa using hi
   obtain⟨hiun,o,ho,_⟩:=mem_ready.1 (show i∈Region.ready md ops listed by rw[hr];simp)
   have hops:bO ops [i]=[o]:=by simp[bO,ho]
   simp only[iO,hops]at h
   refine wpOp_mono (fun a' w' h'=>?_) (aX ho h)
   have hl:mM S1 W n0 (listed.setIfInBounds i true) w':=by
    refine⟨h'.1,fun hx=>?_⟩
    exfalso
    rcases hk with hk|hk
    ·subst hk
     rcases Nat.lt_or_ge i listed.size with hlt|hge
     ·simp[hlt]at hx
     ·simp[Array.getElem?_eq_none hge]at hiun
    ·rw[getD_set_true hk]at hx
     cases hx
   exact⟨hl,pN hs hQ r _ a' w' hB' hl h'.2⟩
def tC (Q:Exit→Act→World→Prop):Exit→Act→World→Prop
 | .panic _,_,_=>False
 | e,a,w=>Q e a w
theorem BL {Q:Exit→Act→World→Prop}:∀(e:Exit) (a:Act) (w:World),tC Q e a w→Q e a w:=fun e a w h=>by
 cases e<;>first|exact h|exact(h:False).elim
theorem oN (ops:Array Oper):bO ops []=[]:=rfl
def rC:List Oper→Nat→List Oper
 | [],_=>[]
 | o::_,0=>[o]
 | _::l,k+1=>rC l k
theorem LO:∀(l:List Oper) (k:Nat),rC l k=(l[k]?).toList
 | [],k=>by simp[rC]
 | o::l,0=>by simp[rC]
 | o::l,k+1=>by simp[rC,LO l k]
theorem oC (l:List Oper) (k:Nat) (ks:List Nat):bO l.toArray (k::ks)=rC l k++bO l.toArray ks:=by
 rw[LO]
 simp only[bO,List.filterMap_cons,List.getElem?_toArray]
 cases l[k]? <;>rfl
theorem oZ (o:Oper) (l:List Oper):rC (o::l) 0=[o]:=rfl
theorem oU (o:Oper) (l:List Oper) (k:Nat):rC (o::l) (k+1)=rC l k:=rfl
theorem oS:(∀(l:List Oper) (k:Nat) (ks:List Nat),bO l.toArray (k::ks)=rC l k++bO l.toArray ks)∧(∀ops:Array Oper,bO ops []=[])∧(∀(o:Oper) (l:List Oper),rC (o::l) 0=[o])∧(∀(o:Oper) (l:List Oper) (k:Nat),rC (o::l) (k+1)=rC l k)∧(∀(o:Oper) (l m:List Oper),(o::l)++m=o::(l++m))∧∀l:List Oper,[]++l=l:=
 ⟨oC,oN,oZ,oU,fun _ _ _=>rfl,fun _=>rfl⟩
theorem pS:(∀(a:Act) (d:Tmp) (v:Value),a.put (some d) v={ a with tmps:=a.tmps.setIfInBounds d v })∧(∀(a:Act) (v:Value),a.put none v=a)∧(∀(l:List Value) (i:Nat) (v:Value),l.toArray.setIfInBounds i v=(l.set i v).toArray)∧(∀(x:Value) (l:List Value) (i:Nat) (v:Value),(x::l).set (i+1) v=x::l.set i v)∧∀(x:Value) (l:List Value) (v:Value),(x::l).set 0 v=v::l:=
 ⟨fun _ _ _=>rfl,fun _ _=>rfl,sU,fun _ _ _ _=>rfl,fun _ _ _=>rfl⟩
theorem dM {Q:Exit→Act→World→Prop} {a:Act} {w:World} (h:Q .normal a w):tC Q .normal a w:=h
theorem wRl {id:Nat} {a:Act} {w:World} {l:List Oper} (n0:Nat) (S1:World→Prop) (runs:List (Tag×List Nat)) (hm:P.follows .mixedOrders=true)
 (hB:(Region.noSelect l.toArray&&decide (oQ runs=l.toArray.size)&&uC .any l.toArray n0 runs (Array.replicate l.toArray.size false))=true)
 (hS:S1 w.drew) (h:iO P l.toArray (tC Q) S1 w.drew runs a w.drew):(Code.region id l.toArray true).wp P Q a w:=by
 simp only[Bool.and_eq_true,decide_eq_true_eq]at hB
 refine Code.wp_mono (Q:=tC Q) BL ?_
 have h1:=pN (md:=.any) (n0:=n0) (Q:=tC Q) hB.1.1 (fun _ _ _ _ _ h=>h) runs (Array.replicate l.toArray.size false) a w.drew hB.2 ⟨hS,fun _=>rfl⟩ h
 rw[hB.1.2]at h1
 exact wp_region_any hm (vZ _ _ _ _ h1)
end
end Go.Proofs.YtgcepckaolkeoaaGreatDoor
