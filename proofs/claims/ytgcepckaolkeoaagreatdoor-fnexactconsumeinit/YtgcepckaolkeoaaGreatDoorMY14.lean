import Derived.Test.YtgcepckaolkeoaaGreatDoorMY13
import Derived.Lib.Mul64
import Derived.Laws.Bits64b
namespace Go.Proofs.YtgcepckaolkeoaaGreatDoor
open Go.RowKit
open Go.Proofs.Tryz
open Go.RowKit Go.Lib
open Go renaming heap_alloc_new → hAN, rounds_succ → rdS, wpList_load_row → wpLr, wpQuiet_nil → wqN
open Go.World renaming size_alloc → wU
open List renaming drop_succ_cons → dJ, drop_zero → dY, length_append → lQ, length_replicate → rJ, length_set → lJ, nil_append → nA, replicate → rQ, take_succ_cons → tU, take_zero → tJ
open Nat renaming le_refl → nQ, lt_of_lt_of_le → nJ
set_option linter.unusedVariables false
def fC (l ys:List Int):Nat→List Int
 | 0=>l
 | n+1=>(fC l ys n).set n ((fC l ys n).getD n 0+ys.getD n 0)
theorem jX (l ys:List Int):∀n,(fC l ys n).length=l.length
 | 0=>rfl
 | n+1=>by simp[fC,jX l ys n]
theorem mW (l ys:List Int):∀n i,n≤i→n≤l.length→(fC l ys n).getD i 0=l.getD i 0
 | 0,i,_,_=>rfl
 | n+1,i,h,hl=>by
   rw[fC,pL _ _ _ _ (by rw[jX];omega),if_neg (by omega)]
   exact mW l ys n i (by omega) (by omega)
theorem uC (l ys:List Int):∀n,n≤l.length→n≤ys.length→aR (fC l ys n)=aR l+aR (ys.take n)
 | 0,_,_=>by simp[fC,aR]
 | n+1,hl,hy=>by
   rw[fC,uQ _ _ _ (by rw[jX];omega),uC l ys n (by omega) (by omega),vZ ys n (by omega),eW,List.length_take,Nat.min_eq_left (by omega)]
   simp only[aR,Int.mul_zero,Int.add_zero]
   rw[show(fC l ys n).getD n 0+ys.getD n 0 - (fC l ys n).getD n 0=ys.getD n 0 by omega]
   omega
theorem DP {l ys:List Int} {B:Int} (hB:0≤B) (hl:∀i,0≤l.getD i 0∧l.getD i 0≤B) (hy:aE ys):∀n,n≤l.length→∀i,0≤(fC l ys n).getD i 0∧(fC l ys n).getD i 0≤B+255
 | 0,_,i=>by have:=hl i;simp only[fC];omega
 | n+1,h,i=>by
   rw[fC,pL _ _ _ _ (by rw[jX];omega)]
   split
   ·rw[mW l ys n n (nQ _) (by omega)]
    have h1:=hl n
    have h2:=hy n
    omega
   ·exact DP hB hl hy n (by omega) i
def fV (P S R:List Int) (i:Nat):Nat→List Int
 | 0=>P
 | j+1=>(fV P S R i j).set (i+j) ((fV P S R i j).getD (i+j) 0+S.getD i 0*R.getD j 0)
def cK (S R:List Int):Nat→List Int
 | 0=>rQ 40 0
 | i+1=>fV (cK S R i) S R i 16
theorem kD (P S R:List Int) (i:Nat):∀j,(fV P S R i j).length=P.length
 | 0=>rfl
 | j+1=>by simp[fV,kD P S R i j]
theorem dV (S R:List Int):∀i,(cK S R i).length=40
 | 0=>by simp[cK]
 | i+1=>by rw[cK,kD,dV S R i]
theorem A9 (P S R:List Int) (i:Nat) (hP:P.length=40):∀j,j≤R.length→i+j≤40→aR (fV P S R i j)=aR P+256^i*S.getD i 0*aR (R.take j)
 | 0,_,_=>by simp[fV,aR]
 | j+1,h,hij=>by
   rw[fV,uQ _ _ _ (by rw[kD];omega),A9 P S R i hP j (by omega) (by omega),vZ R j (by omega),eW,List.length_take,Nat.min_eq_left (by omega)]
   simp only[aR,Int.mul_zero,Int.add_zero]
   rw[show(fV P S R i j).getD (i+j) 0+S.getD i 0*R.getD j 0 - (fV P S R i j).getD (i+j) 0=S.getD i 0*R.getD j 0 by omega]
   rw[Int.mul_add,Int.add_assoc,Int.pow_add]
   congr 2
   rw[Int.mul_assoc,Int.mul_assoc,Int.mul_left_comm (256^j)]
theorem uU (S R:List Int) (hR:R.length=16):∀i,i≤S.length→i≤24→aR (cK S R i)=aR (S.take i)*aR R
 | 0,_,_=>by
   simp only[cK,tJ,aR,Int.zero_mul]
   decide
 | i+1,h,h24=>by
   rw[cK,A9 _ S R i (dV S R i) 16 (by omega) (by omega),uU S R hR i (by omega) (by omega),vZ S i (by omega),eW,List.length_take,Nat.min_eq_left (by omega)]
   rw[show R.take 16=R from List.take_of_length_le (by omega)]
   simp only[aR,Int.mul_zero,Int.add_zero,Int.add_mul]
theorem zK {P S R:List Int} {B:Int} (i:Nat) (hP:P.length=40) (h:∀x,0≤P.getD x 0∧P.getD x 0≤B) (hS:∀x,0≤S.getD x 0∧S.getD x 0≤511) (hR:aE R):∀j:Nat,i+j≤40→∀x,0≤(fV P S R i j).getD x 0∧(fV P S R i j).getD x 0≤B+130305*j
 | 0,_,x=>by have:=h x;simp only[fV];omega
 | j+1,hij,x=>by
   rw[fV,pL _ _ _ _ (by rw[kD];omega)]
   have ih:=zK i hP h hS hR j (by omega)
   have h1:=ih (i+j)
   have h2:=ih x
   have hs:=hS i
   have hr:=hR j
   have hm0:0≤S.getD i 0*R.getD j 0:=Int.mul_nonneg hs.1 hr.1
   have hm1:S.getD i 0*R.getD j 0≤130305:=by
    have:S.getD i 0*R.getD j 0≤511*R.getD j 0:=Int.mul_le_mul_of_nonneg_right hs.2 hr.1
    omega
   split<;>omega
theorem uT {S R:List Int} (hS:∀x,0≤S.getD x 0∧S.getD x 0≤511) (hR:aE R):∀i:Nat,i≤24→∀x,0≤(cK S R i).getD x 0∧(cK S R i).getD x 0≤2084880*i
 | 0,_,x=>by
   simp only[cK,List.getD_eq_getElem?_getD,List.getElem?_replicate]
   split<;>simp
 | i+1,h,x=>by
   have:=zK (B:=2084880*i) i (dV S R i) (uT hS hR i (by omega)) hS hR 16 (by omega) x
   rw[cK]
   omega
theorem NG:∀(l r:List Int),aE l→aE r→l.length=r.length→aR l=aR r→l=r
 | [],[],_,_,_,_=>rfl
 | [],y::r,_,_,h,_=>by simp at h
 | x::l,[],_,_,h,_=>by simp at h
 | x::l,y::r,hl,hr,h,hn=>by
   have h0:0≤x∧x≤255:=hl 0
   have h1:0≤y∧y≤255:=hr 0
   simp only[aR]at hn
   have hxy:x=y:=by omega
   have:=NG l r (fun i=>by have:=hl (i+1);simpa using this) (fun i=>by have:=hr (i+1);simpa using this) (by simpa using h) (by omega)
   rw[hxy,this]
theorem UY (N a:Int) (ha:0<a):N%(a*256)=N%a+a*(N / a%256):=by
 have h1:=Int.mul_ediv_add_emod N a
 have h2:=Int.mul_ediv_add_emod (N / a) 256
 have hr:=Int.emod_nonneg N (show a≠0 by omega)
 have hr2:=Int.emod_lt_of_pos N ha
 have hq:=Int.emod_nonneg (N / a) (show(256:Int)≠0 by decide)
 have hq2:=Int.emod_lt_of_pos (N / a) (show(0:Int)<256 by decide)
 have e:N=(N%a+a*(N / a%256))+a*256*(N / a / 256):=by
  have h3:a*(N / a)=a*(256*(N / a / 256))+a*(N / a%256):=by rw[←Int.mul_add,h2]
  rw[←Int.mul_assoc]at h3
  omega
 have hlo:0≤a*(N / a%256):=Int.mul_nonneg (by omega) hq
 have hhi:a*(N / a%256)≤a*255:=Int.mul_le_mul_of_nonneg_left (by omega) (by omega)
 have e2:N%(a*256)=(N%a+a*(N / a%256))%(a*256):=by
  conv=>lhs;rw[e]
  exact Int.add_mul_emod_self_left _ _ _
 rw[e2]
 exact Int.emod_eq_of_lt (by omega) (by omega)
theorem IK (N:Int):∀n:Nat,aR ((List.range n).map fun i=>N / 256^i%256)=N%256^n
 | 0=>by simp[aR,Int.emod_one]
 | n+1=>by
   rw[List.range_succ,List.map_append,eW,IK N n,Int.pow_succ,UY N (256^n) (yB n)]
   simp[aR]
theorem wS (N:Int):aE (gI N):=by
 intro i
 simp only[gI,List.getD_eq_getElem?_getD,List.getElem?_map]
 by_cases h:i<16
 ·rw[List.getElem?_range h]
  simp only[Option.map_some,Option.getD_some]
  omega
 ·rw[List.getElem?_eq_none (by simp;omega)]
  simp
theorem TK (d:List Int) (hd:jN d) (hl:16≤d.length):gE d 16=gI (aR d):=by
 refine NG _ _ (nT d 16) (wS _) (by rw[iU];simp[gI]) ?_
 rw[IN d hd 16,xY,gI,IK,pV d 16 hl,Int.add_mul_emod_self_left]
def qR (key:List Int) (k:Nat):Int:=if k%4=3 then key.getD k 0%16 else if k%4=0∧0<k then key.getD k 0 - key.getD k 0%4 else key.getD k 0
def jK (key:List Int) (n:Nat):List Int:=(List.range n).map (qR key)
theorem tI (key:List Int) (n:Nat):(jK key n).length=n:=by simp[jK]
theorem QD (key:List Int) (n:Nat):jK key (n+1)=jK key n++[qR key n]:=by simp[jK,List.range_succ]
theorem NX {key:List Int} (hb:aE key) (n:Nat):aE (jK key n):=by
 intro i
 simp only[jK,List.getD_eq_getElem?_getD,List.getElem?_map]
 by_cases h:i<n
 ·rw[List.getElem?_range h]
  simp only[Option.map_some,Option.getD_some,qR]
  have:=hb i
  split
  ·omega
  ·split<;>omega
 ·rw[List.getElem?_eq_none (by simp;omega)]
  simp
theorem NY (key:List Int) (hb:aE key):aR (jK key 16)=kR key:=by
 have b0:=hb 0
 have b1:=hb 1
 have b2:=hb 2
 have b3:=hb 3
 have b4:=hb 4
 have b5:=hb 5
 have b6:=hb 6
 have b7:=hb 7
 have b8:=hb 8
 have b9:=hb 9
 have b10:=hb 10
 have b11:=hb 11
 have b12:=hb 12
 have b13:=hb 13
 have b14:=hb 14
 have b15:=hb 15
 have e:jK key 16=[qR key 0,qR key 1,qR key 2,qR key 3,qR key 4,qR key 5,qR key 6,qR key 7,qR key 8,qR key 9,qR key 10,qR key 11,qR key 12,qR key 13,qR key 14,qR key 15]:=rfl
 rw[e]
 simp only[aR,kR,aF,qR]
 simp[-List.getD_eq_getElem?_getD]
 omega
theorem QG (key:List Int) (hb:aE key) (hl:key.length=32):aR ((key.drop 16).take 16)=aa7 key:=by
 have h16:(key.drop 16).length=16:=by rw[List.length_drop,hl]
 have hbd:=cE hb 16
 rw[List.take_of_length_le (by omega)]
 unfold aa7
 generalize key.drop 16=s at*
 match s,h16 with
 | [z0,z1,z2,z3,z4,z5,z6,z7,z8,z9,z10,z11,z12,z13,z14,z15],_=>
   simp[aR,aF]
   omega
theorem cC.nilAt {k:IntKind} {e:TypeId} {base:Nat} (w:World) (g:Nat) (hg:g=w.heap.size) (hb:base≤g):cC k e base (w.alloc (.cells #[] e)) (.slice (some ⟨g,0,none⟩) 0 0) []:=by
 subst hg
 exact cC.nil w hb
theorem cC.madeAt {k:IntKind} {e:TypeId} {base:Nat} (w:World) (g n:Nat) (hg:g=w.heap.size) (hb:base≤g) (hn:n≤1000000):cC k e base (w.alloc (.cells (Iv k (rQ n 0)) e)) (.slice (some ⟨g,0,none⟩) n n) (rQ n 0):=by
 subst hg
 exact cC.made w n hb hn
theorem SR {acc d q r:Int} (h0:0≤acc) (h1:acc<gS) (h2:0≤d) (h3:d<256^16) (h4:0<q) (h5:q≤256^16) (h6:0≤r) (h7:r<256^16):0≤(acc+(d+q))*r∧(acc+(d+q))*r<256^40:=by
 rw[SF]at*
 rw[NT]
 unfold gS at h1
 have hs0:0≤acc+(d+q):=by omega
 have hs1:acc+(d+q)≤2722258935367507707706996859454145691648:=by omega
 refine⟨Int.mul_nonneg hs0 h6,?_⟩
 have:(acc+(d+q))*r≤2722258935367507707706996859454145691648*r:=Int.mul_le_mul_of_nonneg_right hs1 h6
 omega
theorem aaH:(prog.info? 27).map (·.size)=some 16:=by kernel_rfl
theorem abD (w:World):∀j,j<2→(w.alloc (.cells #[.int .i64 0,.int .i64 0] 3)).cell? ⟨w.heap.size,0+j,none⟩=some (.int .i64 ([0,0].getD j 0)):=by
 intro j hj
 rw[World.cell?_alloc_at _ _ _ _ rfl]
 match j,hj with
 | 0,_=>rfl
 | 1,_=>rfl
set_option maxRecDepth 100000 in
set_option maxHeartbeats 8000000 in
theorem YW (key zs:List Int) (m:Nat) (a:Option Addr) (cap:Nat) (w:World) (hm:zs.length=m) (hm2:m≤1048576) (hk:key.length=32) (hkb:aE key) (hz:aE zs)
 (hc:∀i,i<m→∃b o,a=some ⟨b,o,none⟩∧b<w.heap.size∧w.cell? ⟨b,o+i,none⟩=some (.int .u8 (zs.getD i 0))):
 Calls prog 84 #[.agg (Iv .u8 key),.slice a m cap] w fun e w'=>e=.returned (.agg (Iv .u8 (gR key zs)))∧Below w.heap.size w w':=by
 have hmk17:∀w,(Instr.makeSlice 180 (.int .i64 17) (.int .i64 17)).run prog w=.ok (.slice (some ⟨w.heap.size,0,none⟩) 17 17) (w.alloc (.cells (Iv .i64 (rQ 17 0)) 3)):=I5 (P:=prog) 180 3 .i64 8 17 underlying180 pO (by decide) (by decide)
 have hmk40:∀w,(Instr.makeSlice 180 (.int .i64 40) (.int .i64 40)).run prog w=.ok (.slice (some ⟨w.heap.size,0,none⟩) 40 40) (w.alloc (.cells (Iv .i64 (rQ 40 0)) 3)):=I5 (P:=prog) 180 3 .i64 8 40 underlying180 pO (by decide) (by decide)
 go_enter func84,ntmps84
 go_wp2
 go_loopw [5,6] (fun v i wr=>∃k:Nat,k≤16∧i=.int .i64 k∧cC .i64 3 (w.heap.size+2) wr v (jK key k)∧Below (w.heap.size+2) ((w.alloc (.cells (Iv .u8 key) 22)).alloc (.cells (Iv .u8 (rQ 16 0)) 27)) wr) (fun _ i _=>16 - (intOf i).toNat)
 case atStart=>
  exact⟨0,by omega,rfl,cC.nilAt _ _ (by simp) (by omega),(Below.refl _ _).alloc (by simp) _⟩
 case round=>
  obtain⟨k,hk16,rfl,hown,hbel⟩:=hrel
  have hsz:=hbel.size
  have hs2:w.heap.size+2≤wr.heap.size:=by simpa using hsz
  by_cases hlt:k<16
  ·have ck:wr.cell? ⟨w.heap.size,k,none⟩=some (.int .u8 (key.getD k 0)):=by
    rw[hbel.cell (p:=⟨w.heap.size,k,none⟩) (by show w.heap.size<_;omega),World.cell?_alloc_past _ _ _ (by simp),World.cell?_alloc_at _ _ _ _ rfl,cN .u8 key k (by omega)]
    simp[show k<key.length by omega]
   have bk:=hkb k
   obtain⟨b0,b1⟩:=bk
   have HL:Hid ((jK key k).length≤100000000):=by show _≤_;rw[tI];omega
   have HS:Hid (jK key (k+1)=jK key k++[qR key k]):=QD key k
   have HD:Hid (qR key k=if k%4=3 then key.getD k 0%16 else if k%4=0∧0<k then key.getD k 0 - key.getD k 0%4 else key.getD k 0):=rfl
   generalize key.getD k 0=x at*
   clear hsz
   by_cases h3:k%4=3
   ·have t3:((k:Int)%4==3)=true:=by rw[beq_iff_eq];omega
    have t0:((k:Int)%4==0)=false:=by rw[beq_eq_false_iff_ne];omega
    go_wp2_with(at_builtin;refine cM .i64 180 3 8 underlying180 pO (by decide) rfl (.tmp 46) (.tmp 48) rfl (w.heap.size+2) _ _ _ (jK key k) _ rfl rfl hown hbel hs2 HL.out ?_;intro v' w' hown' hbel' _ _)
    go_roundw
    case rel=>exact⟨k+1,by omega,by go_num,by rw[HS.out,HD.out,if_pos h3];exact hown',hbel'⟩
    case measure=>simp[intOf];omega
   ·have t3:((k:Int)%4==3)=false:=by rw[beq_eq_false_iff_ne];omega
    by_cases h0:k%4=0∧0<k
    ·obtain⟨h0a,h0b⟩:=h0
     have t0:((k:Int)%4==0)=true:=by rw[beq_iff_eq];omega
     have tp:(0:Int)<(k:Int):=by omega
     go_wp2_with(at_builtin;refine cM .i64 180 3 8 underlying180 pO (by decide) rfl (.tmp 46) (.tmp 48) rfl (w.heap.size+2) _ _ _ (jK key k) _ rfl rfl hown hbel hs2 HL.out ?_;intro v' w' hown' hbel' _ _)
     go_roundw
     case rel=>exact⟨k+1,by omega,by go_num,by rw[HS.out,HD.out,if_neg h3,if_pos ⟨h0a,h0b⟩];exact hown',hbel'⟩
     case measure=>simp[intOf];omega
    ·have HX:Hid (jK key (k+1)=jK key k++[x]):=by rw[HS.out,HD.out,if_neg h3,if_neg h0];rfl
     by_cases hk0:k=0
     ·subst hk0
      clear h0 t3
      go_wp2_with(at_builtin;refine cM .i64 180 3 8 underlying180 pO (by decide) rfl (.tmp 46) (.tmp 48) rfl (w.heap.size+2) _ _ _ (jK key 0) _ rfl rfl hown hbel hs2 HL.out ?_;intro v' w' hown' hbel' _ _)
      go_roundw
      case rel=>exact⟨1,by omega,by go_num,by rw[HX.out];exact hown',hbel'⟩
      case measure=>simp[intOf]
     ·have t0:((k:Int)%4==0)=false:=by rw[beq_eq_false_iff_ne];omega
      clear h0
      go_wp2_with(at_builtin;refine cM .i64 180 3 8 underlying180 pO (by decide) rfl (.tmp 46) (.tmp 48) rfl (w.heap.size+2) _ _ _ (jK key k) _ rfl rfl hown hbel hs2 HL.out ?_;intro v' w' hown' hbel' _ _)
      go_roundw
      case rel=>exact⟨k+1,by omega,by go_num,by rw[HX.out];exact hown',hbel'⟩
      case measure=>simp[intOf];omega
  ·obtain rfl:k=16:=by omega
   obtain⟨gr,capr,rfl,r1,r2,r3,r4,r5,r6⟩:=hown.held 16 (tI key 16) (by decide)
   have HR:Hid (∀i,i<16→wr.cell? ⟨gr,i,none⟩=some (.int .i64 ((jK key 16).getD i 0))):=r5
   have HRB:Hid (aE (jK key 16)):=NX hkb 16
   have HRV:Hid (aR (jK key 16)=kR key):=NY key hkb
   have HRL:Hid ((jK key 16).length=16):=tI key 16
   have HC:Hid (∀i,i<m→∃b o,a=some ⟨b,o,none⟩∧b<w.heap.size∧w.cell? ⟨b,o+i,none⟩=some (.int .u8 (zs.getD i 0))):=hc
   have HM:Hid (zs.length=m):=hm
   have HKL:Hid (key.length=32):=hk
   generalize jK key 16=R at*
   obtain⟨WR,rfl⟩:∃X,X=wr:=⟨_,rfl⟩
   clear hc r5 r6 hm hk hsz
   go_wp2
   go_loopw [8,9] (fun v i wr=>∃(j:Nat) (A:List Int),i=.int .i64 ((16*j:Nat):Int)∧16*j<m+16∧cC .i64 3 WR.heap.size wr v A∧A.length=17∧aE A∧aR A=iS (kR key) zs j∧Below WR.heap.size WR wr) (fun _ i _=>m+16 - (intOf i).toNat)
   case atStart=>
    refine⟨0,rQ 17 0,rfl,by omega,cC.made WR 17 (nQ _) (by decide),by simp,?_,?_,(Below.refl _ _).alloc (nQ _) _⟩
    ·intro i
     simp only[List.getD_eq_getElem?_getD,List.getElem?_replicate]
     split<;>simp
    ·rw[iS]
     decide
   case round=>
    obtain⟨j,A,rfl,hj16,hownA,hAl,hAb,hAv,hbelA⟩:=hrel
    obtain⟨WA,rfl⟩:∃X,X=wr:=⟨_,rfl⟩
    obtain⟨gA,capA,rfl,a1,a2,a3,a4,a5,a6⟩:=hownA.held 17 hAl (by decide)
    have dD:=hbelA.size
    have HAl:Hid (A.length=17):=hAl
    have HAv:Hid (aR A=iS (kR key) zs j):=hAv
    have HA5:Hid (∀i,i<17→WA.cell? ⟨gA,i,none⟩=some (.int .i64 (A.getD i 0))):=a5
    clear hAl hAv a5
    by_cases hlt:16*j<m
    ·have HO:Hid (cC .i64 3 WA.heap.size (WA.alloc (.cells #[] 3)) (.slice (some ⟨WA.heap.size,0,none⟩) 0 0) []):=cC.nil WA (nQ _)
     have HB:Hid (Below WA.heap.size WA (WA.alloc (.cells #[] 3))):=(Below.refl _ _).alloc (nQ _) _
     have HN:Hid (∀i,i<17→(WA.alloc (.cells #[] 3)).cell? ⟨gA,0+i,none⟩=some (.int .i64 (A.getD i 0))):=by
      intro i hi
      rw[World.cell?_alloc_past _ _ _ a2,Nat.zero_add,HA5.out i hi]
     have hlt':((16*j:Nat):Int)<(m:Int):=by omega
     have HL2:Hid (A.length+2≤1000000000):=by show _≤_;rw[HAl.out];decide
     go_wp2_with(first
      | (at_builtin;(refine dG .i64 180 3 8 underlying180 pO (by decide) rfl (.tmp 57) (.tmp 58) rfl WA.heap.size WA _ _ [] gA 0 17 _ A HAl.out rfl rfl HO.out HB.out (by simp) (by simp) HN.out ?_;intro v2 w2 hown2 hbel2 _ _;rw[nA]at hown2;have hs2:=hbel2.size))
      | (at_builtin;(refine dG .i64 180 3 8 underlying180 pO (by decide) rfl (.tmp 60) (.tmp 61) rfl WA.heap.size WA _ _ A w2.heap.size 0 2 2 [0,0] rfl rfl rfl (World.ownsRow.alloc hown2 _) (hbel2.alloc hs2 _) (by simp;omega) HL2.out (abD w2) ?_;intro v3 w3 hown3 hbel3 _ _)))
     have HSl:Hid ((A++[0,0]).length=19):=by show _=_;rw[lQ,HAl.out];rfl
     obtain⟨gs,caps,rfl,s1,s2,s3,s4,s5,s6⟩:=hown3.held 19 HSl.out (by decide)
     obtain⟨D,hD⟩:∃D,D=(zs.drop (16*j)).take 16:=⟨_,rfl⟩
     obtain⟨L,hL⟩:∃L,L=D.length:=⟨_,rfl⟩
     have hLv:L=min 16 (m - 16*j):=by rw[hL,hD,List.length_take,List.length_drop,HM.out]
     have hDb:aE D:=by rw[hD];exact dB (cE hz _) _
     have hDg:∀n,n<L→D.getD n 0=zs.getD (16*j+n) 0:=by
      intro n hn
      rw[hD,cT,if_pos (by omega)]
      simp only[List.getD_eq_getElem?_getD,List.getElem?_drop]
     have hS0:∀i,0≤(A++[0,0]).getD i 0∧(A++[0,0]).getD i 0≤255:=by
      intro i
      rw[uH]
      split
      ·exact hAb i
      ·generalize i - A.length=q
       match q with
       | 0=>simp
       | 1=>simp
       | q+2=>simp
     have HDA:Hid (D=(zs.drop (16*j)).take 16):=hD
     have HLD:Hid (D.length=L):=hL.symm
     have HDB:Hid (aE D):=hDb
     have HDG:Hid (∀n,n<L→D.getD n 0=zs.getD (16*j+n) 0):=hDg
     have HS0:Hid (∀i,0≤(A++[0,0]).getD i 0∧(A++[0,0]).getD i 0≤255):=hS0
     have hLa:L≤16:=by omega
     have hLb:16*j+L≤m:=by omega
     have hLc:L=16∨16*j+L=m:=by omega
     have hLd:0<L:=by omega
     have HLv:Hid (L=min 16 (m - 16*j)):=hLv
     clear hD hL hDb hDg hS0 hLv hown2 hbel2 s5 s6
     go_loopw [11] (fun n wr=>∃q:Nat,q≤L∧n=.int .i64 q∧cC .i64 3 WA.heap.size wr (.slice (some ⟨gs,0,none⟩) 19 caps) (fC (A++[0,0]) D q)∧Below WA.heap.size WA wr) (fun n _=>16 - (intOf n).toNat)
     case atStart=>exact⟨0,by omega,rfl,hown3,hbel3⟩
     case round=>
      obtain⟨q,hq,rfl,hownS,hbelS⟩:=hrel
      have hal:(fC (A++[0,0]) D q).length=19:=by rw[jX,HSl.out]
      have HAL:Hid ((fC (A++[0,0]) D q).length=19):=hal
      obtain⟨gs',caps',hv',t1,t2,t3,t4,t5,t6⟩:=hownS.held 19 hal (by decide)
      simp only[Value.slice.injEq,Option.some.injEq,Addr.mk.injEq,and_true,true_and]at hv'
      obtain⟨rfl,rfl⟩:=hv'
      have cS:=t5 q (by omega)
      have fS:=t6 q
      by_cases hqL:q<L
      ·obtain⟨b,o,rfl,hb,hcell⟩:=HC.out (16*j+q) (by omega)
       have cz:wr.cell? ⟨b,o+(16*j+q),none⟩=some (.int .u8 (D.getD q 0)):=by
        rw[HDG.out q hqL,←hcell]
        exact((hbelS.cell (p:=⟨b,o+(16*j+q),none⟩) (by show b<_;omega)).trans (hbelA.cell (p:=⟨b,o+(16*j+q),none⟩) (by show b<_;omega))).trans ((hbel.cell (p:=⟨b,o+(16*j+q),none⟩) (by show b<_;omega)).trans (by rw[World.cell?_alloc_past _ _ _ (by simp<;>omega),World.cell?_alloc_past _ _ _ hb]))
       have bz:=HDB.out q
       have bS:=HS0.out q
       rw[mW _ _ q q (nQ _) (by rw[HSl.out];omega)]at cS
       have HST:Hid (fC (A++[0,0]) D (q+1)=(fC (A++[0,0]) D q).set q ((A++[0,0]).getD q 0+D.getD q 0)):=by
        show _=_
        rw[fC,mW _ _ q q (nQ _) (by rw[HSl.out];omega)]
       obtain⟨p0,p1⟩:=bz
       obtain⟨p2,p3⟩:=bS
       generalize D.getD q 0=x at*
       generalize(A++[0,0]).getD q 0=y at*
       clear t5 t6 hcell hal
       have hq16:(q:Int)<16:=by omega
       go_wp2
       refine wRh 13 AD (by kernel_rfl) ?_
       simp only[tU,tJ,dJ,dY]
       repeat(go_big_quiet_step (fail))
       refine wqN ?_
       go_wp2
       go_roundw
       case rel=>exact⟨q+1,by omega,by go_num,by rw[HST.out];exact(cC.set (w:=wr.drew) hownS q (y+x)),hbelS.drew.setCell (by exact t1) _⟩
       case measure=>simp[intOf];omega
      ·obtain rfl:q=L:=by omega
       have HS1:Hid (∀i,0≤(fC (A++[0,0]) D q).getD i 0∧(fC (A++[0,0]) D q).getD i 0≤510):=DP (by decide) HS0.out HDB.out q (by rw[HSl.out];omega)
       have HV1:Hid (aR (fC (A++[0,0]) D q)=iS (kR key) zs j+aR D):=by
        show _=_
        rw[uC _ _ q (by rw[HSl.out];omega) (by rw[HLD.out];exact nQ _),List.take_of_length_le (by rw[HLD.out];exact nQ _),eW,HAv.out]
        simp[aR]
       have bq:=HS1.out q
       obtain⟨b0,b1⟩:=bq
       generalize hS1:fC (A++[0,0]) D q=S1 at*
       have HS2:Hid (∀i,0≤(S1.set q (S1.getD q 0+1)).getD i 0∧(S1.set q (S1.getD q 0+1)).getD i 0≤511):=by
        intro i
        rw[pL _ _ _ _ (by rw[HAL.out];omega)]
        have h1:=HS1.out i
        split<;>omega
       have HV2:Hid (aR (S1.set q (S1.getD q 0+1))=iS (kR key) zs j+(aR D+256^q)):=by
        show _=_
        rw[uQ _ _ _ (by rw[HAL.out];omega),HV1.out,show S1.getD q 0+1 - S1.getD q 0=1 by omega,Int.mul_one]
        omega
       have HL2':Hid ((S1.set q (S1.getD q 0+1)).length=19):=by show _=_;rw[lJ];exact HAL.out
       have hownS2:cC .i64 3 WA.heap.size (wr.setCell ⟨gs,q,none⟩ (.int .i64 (S1.getD q 0+1))) (.slice (some ⟨gs,0,none⟩) 19 caps) (S1.set q (S1.getD q 0+1)):=hownS.set q _
       have hbelS2:Below WA.heap.size WA (wr.setCell ⟨gs,q,none⟩ (.int .i64 (S1.getD q 0+1))):=hbelS.setCell (by exact t1) _
       have Hown2:Hid (cC .i64 3 WA.heap.size (wr.setCell ⟨gs,q,none⟩ (.int .i64 (S1.getD q 0+1))) (.slice (some ⟨gs,0,none⟩) 19 caps) (S1.set q (S1.getD q 0+1))):=hownS2
       have Hbel2:Hid (Below WA.heap.size WA (wr.setCell ⟨gs,q,none⟩ (.int .i64 (S1.getD q 0+1)))):=hbelS2
       have Hsz2:Hid ((wr.setCell ⟨gs,q,none⟩ (.int .i64 (S1.getD q 0+1))).heap.size=wr.heap.size):=by show _=_;simp
       generalize S1.set q (S1.getD q 0+1)=S at*
       generalize S1.getD q 0=z at*
       clear t5 t6 hownS2 hbelS2 hownS hbelS hS1 hal HS1 HV1
       have HP:Hid (q=16∨q<16∧16*j+q=m):=by rcases hLc with h|h;exact .inl h;exact(by omega:q=16∨q<16∧16*j+q=m)
       have step:(q=16∨q<16∧16*j+q=m):=HP.out
       rcases step with h16|⟨h16,hend⟩
       ·have hq16:(16:Int)≤(q:Int):=by omega
        clear h16
        go_wp2
        generalize wr.setCell ⟨gs,q,none⟩ (.int .i64 (z+1))=W5 at*
        have hgp:gs<wr.heap.size:=t2
        obtain⟨gp,hgpe⟩:∃gp,gp=wr.heap.size:=⟨_,rfl⟩
        have HG:Hid (gp=W5.heap.size):=by show gp=_;rw[Hsz2.out];exact hgpe
        rw[←hgpe]at hgp⊢
        have hW5s:WA.heap.size≤gp:=by have:=Hbel2.out.size;have:=HG.out;omega
        have HcS:Hid (∀i,i<19→W5.cell? ⟨gs,i,none⟩=some (.int .i64 (S.getD i 0))):=by
         intro i hi
         have h:=Hown2.out.rd.2 i (by rw[HL2'.out];exact hi)
         obtain⟨b',o',he,hcell⟩:=h
         simp only[Option.some.injEq,Addr.mk.injEq,and_true]at he
         obtain⟨rfl,rfl⟩:=he
         rw[Nat.zero_add]at hcell
         exact hcell
        have HcR:Hid (∀i,i<16→W5.cell? ⟨gr,i,none⟩=some (.int .i64 (R.getD i 0))):=fun i hi=>((Hbel2.out.cell (p:=⟨gr,i,none⟩) (by show gr<_;omega)).trans (hbelA.cell (p:=⟨gr,i,none⟩) r2)).trans (HR.out i hi)
        clear t2 hgpe t1 hbel3 hown3
        go_loopw [97] (fun i wr=>∃t:Nat,t≤19∧i=.int .i64 t∧cC .i64 3 gp wr (.slice (some ⟨gp,0,none⟩) 40 40) (cK S R t)∧Below gp W5 wr) (fun i _=>19 - (intOf i).toNat)
        case atStart=>exact⟨0,by omega,rfl,cC.madeAt W5 gp 40 HG.out (nQ _) (by decide),(Below.refl _ _).alloc (Nat.le_of_eq HG.out) _⟩
        case round=>
         obtain⟨t,ht,rfl,hownP,hbelP⟩:=hrel
         obtain⟨W6,rfl⟩:∃X,X=wr:=⟨_,rfl⟩
         have hs6:=hbelP.size
         have hs6':gp≤W6.heap.size:=by have:=HG.out;omega
         by_cases ht19:t<19
         ·have cSt:=(hbelP.cell (p:=⟨gs,t,none⟩) hgp).trans (HcS.out t ht19)
          have bSt:=HS2.out t
          obtain⟨d0,d1⟩:=bSt
          have HIN:Hid (∀u:Nat,t+u≤40→∀x,0≤(fV (cK S R t) S R t u).getD x 0∧(fV (cK S R t) S R t u).getD x 0≤2084880*t+130305*u):=zK t (dV S R t) (uT HS2.out HRB.out t (by omega)) HS2.out HRB.out
          have HPI:Hid (cK S R (t+1)=fV (cK S R t) S R t 16):=rfl
          have HST:Hid (∀u,fV (cK S R t) S R t (u+1)=(fV (cK S R t) S R t u).set (t+u) ((fV (cK S R t) S R t u).getD (t+u) 0+S.getD t 0*R.getD u 0)):=fun u=>rfl
          have HPL:Hid (∀u,(fV (cK S R t) S R t u).length=40):=fun u=>(kD _ S R t u).trans (dV S R t)
          have hown0:cC .i64 3 gp W6 (.slice (some ⟨gp,0,none⟩) 40 40) (fV (cK S R t) S R t 0):=hownP
          generalize S.getD t 0=x at*
          generalize hQ:fV (cK S R t) S R t=Q at*
          clear hQ hownP
          go_wp2
          go_loopw [104] (fun i wr=>∃u:Nat,u≤16∧i=.int .i64 u∧cC .i64 3 gp wr (.slice (some ⟨gp,0,none⟩) 40 40) (Q u)∧Below gp W5 wr) (fun i _=>16 - (intOf i).toNat)
          case atStart=>exact⟨0,by omega,rfl,hown0,hbelP⟩
          case round=>
           obtain⟨u,hu,rfl,hownQ,hbelQ⟩:=hrel
           by_cases hu16:u<16
           ·have cRu:=(hbelQ.cell (p:=⟨gr,u,none⟩) (by show gr<_;omega)).trans (HcR.out u hu16)
            have bRu:=HRB.out u
            have bQ:=HIN.out u (by omega) (t+u)
            have HSu:=HST.out u
            obtain⟨gp',capp',hv',y1,y2,y3,y4,y5,y6⟩:=hownQ.held 40 (HPL.out u) (by decide)
            simp only[Value.slice.injEq,Option.some.injEq,Addr.mk.injEq,and_true,true_and]at hv'
            obtain⟨rfl,rfl⟩:=hv'
            have cQ:=y5 (t+u) (by omega)
            have fQ:=y6 (t+u)
            obtain⟨e0,e1⟩:=bRu
            obtain⟨e2,e3⟩:=bQ
            have hm0:0≤x*R.getD u 0:=Int.mul_nonneg d0 e0
            have hm1:x*R.getD u 0≤130305:=by
             have h:=Int.mul_le_mul_of_nonneg_right d1 e0
             omega
            have HSU:Hid (Q (u+1)=(Q u).set (t+u) ((Q u).getD (t+u) 0+x*R.getD u 0)):=HSu
            generalize R.getD u 0=y at*
            generalize(Q u).getD (t+u) 0=p at*
            clear y5 y6 HSu
            go_wp2
            go_roundw
            case rel=>exact⟨u+1,by omega,by go_num,by rw[HSU.out];exact hownQ.set (t+u) (p+x*y),hbelQ.setCell (nQ _) _⟩
            case measure=>simp[intOf];omega
           ·obtain rfl:u=16:=by omega
            go_wp2
            go_roundw
            case rel=>exact⟨t+1,by omega,by go_num,by rw[HPI.out];exact hownQ,hbelQ⟩
            case measure=>simp[intOf];omega
         ·obtain rfl:t=19:=by omega
          have hin:=uT HS2.out HRB.out 19 (by decide)
          have HDg:Hid (jN (cK S R 19)):=fun i=>by have:=hin i;omega
          have HPv:Hid (aR (cK S R 19)=(iS (kR key) zs j+(aR D+256^q))*kR key):=by
           show _=_
           rw[uU S R HRL.out 19 (by rw[HL2'.out];exact nQ _) (by decide),List.take_of_length_le (by rw[HL2'.out];exact nQ _),HV2.out,HRV.out]
          have HPb:Hid (0≤aR (cK S R 19)∧aR (cK S R 19)<256^40):=by
           rw[HPv.out]
           have ha:=OL (kR key) zs j
           have hd:=nK D HDB.out
           have hr:=nK R HRB.out
           rw[HLD.out]at hd
           rw[HRL.out,HRV.out]at hr
           have hq16:(256:Int)^q≤256^16:=by exact_mod_cast Nat.pow_le_pow_right (n:=256) (by decide) hLa
           exact SR ha.1 ha.2 hd.1 (by omega) (yB q) hq16 hr.1 hr.2
          have HMv:=I7 (cK S R 19) HDg.out (by rw[dV];exact nQ _) HPb.out.1 HPb.out.2
          have HMV:Hid (aR (oP (cK S R 19))=iS (kR key) zs (j+1)∧aE (oP (cK S R 19))∧(oP (cK S R 19)).length=17):=by
           refine⟨?_,HMv.2⟩
           rw[HMv.1,HPv.out,iS,←HDA.out,HLD.out]
          clear hin HMv
          go_wp2_with fail
          refine(RV (cK S R 19) 40 (dV S R 19) HDg.out _ 40 W6 hownP.rd.2 (by decide)).mono ?_
          rintro e w9 ⟨v9,rfl,hown9,hbel9⟩
          have hb9:Below WR.heap.size WR w9:=((hbelA.trans (Hbel2.out.mono dD)).trans (hbelP.mono (by omega))).trans (hbel9.mono (by omega))
          go_wp2
          go_roundw
          case rel=>
           repeat apply Exists.intro
           refine⟨⟨j+1,oP (cK S R 19),?_,by omega,hown9.mono (by omega),HMV.out.2.2,HMV.out.2.1,HMV.out.1,hb9⟩,?_⟩
           rotate_left
           ·rfl
           ·go_num
          case measure=>simp[intOf];omega
       ·have hq16:(q:Int)<16:=by omega
        have hend':¬((16*(j:Int)+(q:Int))<(m:Int)):=by omega
        clear hend h16
        go_wp2
        generalize wr.setCell ⟨gs,q,none⟩ (.int .i64 (z+1))=W5 at*
        have hgp:gs<wr.heap.size:=t2
        obtain⟨gp,hgpe⟩:∃gp,gp=wr.heap.size:=⟨_,rfl⟩
        have HG:Hid (gp=W5.heap.size):=by show gp=_;rw[Hsz2.out];exact hgpe
        rw[←hgpe]at hgp⊢
        have hW5s:WA.heap.size≤gp:=by have:=Hbel2.out.size;have:=HG.out;omega
        have HcS:Hid (∀i,i<19→W5.cell? ⟨gs,i,none⟩=some (.int .i64 (S.getD i 0))):=by
         intro i hi
         have h:=Hown2.out.rd.2 i (by rw[HL2'.out];exact hi)
         obtain⟨b',o',he,hcell⟩:=h
         simp only[Option.some.injEq,Addr.mk.injEq,and_true]at he
         obtain⟨rfl,rfl⟩:=he
         rw[Nat.zero_add]at hcell
         exact hcell
        have HcR:Hid (∀i,i<16→W5.cell? ⟨gr,i,none⟩=some (.int .i64 (R.getD i 0))):=fun i hi=>((Hbel2.out.cell (p:=⟨gr,i,none⟩) (by show gr<_;omega)).trans (hbelA.cell (p:=⟨gr,i,none⟩) r2)).trans (HR.out i hi)
        clear t2 hgpe t1 hbel3 hown3
        go_loopw [97] (fun i wr=>∃t:Nat,t≤19∧i=.int .i64 t∧cC .i64 3 gp wr (.slice (some ⟨gp,0,none⟩) 40 40) (cK S R t)∧Below gp W5 wr) (fun i _=>19 - (intOf i).toNat)
        case atStart=>exact⟨0,by omega,rfl,cC.madeAt W5 gp 40 HG.out (nQ _) (by decide),(Below.refl _ _).alloc (Nat.le_of_eq HG.out) _⟩
        case round=>
         obtain⟨t,ht,rfl,hownP,hbelP⟩:=hrel
         obtain⟨W6,rfl⟩:∃X,X=wr:=⟨_,rfl⟩
         have hs6:=hbelP.size
         have hs6':gp≤W6.heap.size:=by have:=HG.out;omega
         by_cases ht19:t<19
         ·have cSt:=(hbelP.cell (p:=⟨gs,t,none⟩) hgp).trans (HcS.out t ht19)
          have bSt:=HS2.out t
          obtain⟨d0,d1⟩:=bSt
          have HIN:Hid (∀u:Nat,t+u≤40→∀x,0≤(fV (cK S R t) S R t u).getD x 0∧(fV (cK S R t) S R t u).getD x 0≤2084880*t+130305*u):=zK t (dV S R t) (uT HS2.out HRB.out t (by omega)) HS2.out HRB.out
          have HPI:Hid (cK S R (t+1)=fV (cK S R t) S R t 16):=rfl
          have HST:Hid (∀u,fV (cK S R t) S R t (u+1)=(fV (cK S R t) S R t u).set (t+u) ((fV (cK S R t) S R t u).getD (t+u) 0+S.getD t 0*R.getD u 0)):=fun u=>rfl
          have HPL:Hid (∀u,(fV (cK S R t) S R t u).length=40):=fun u=>(kD _ S R t u).trans (dV S R t)
          have hown0:cC .i64 3 gp W6 (.slice (some ⟨gp,0,none⟩) 40 40) (fV (cK S R t) S R t 0):=hownP
          generalize S.getD t 0=x at*
          generalize hQ:fV (cK S R t) S R t=Q at*
          clear hQ hownP
          go_wp2
          go_loopw [104] (fun i wr=>∃u:Nat,u≤16∧i=.int .i64 u∧cC .i64 3 gp wr (.slice (some ⟨gp,0,none⟩) 40 40) (Q u)∧Below gp W5 wr) (fun i _=>16 - (intOf i).toNat)
          case atStart=>exact⟨0,by omega,rfl,hown0,hbelP⟩
          case round=>
           obtain⟨u,hu,rfl,hownQ,hbelQ⟩:=hrel
           by_cases hu16:u<16
           ·have cRu:=(hbelQ.cell (p:=⟨gr,u,none⟩) (by show gr<_;omega)).trans (HcR.out u hu16)
            have bRu:=HRB.out u
            have bQ:=HIN.out u (by omega) (t+u)
            have HSu:=HST.out u
            obtain⟨gp',capp',hv',y1,y2,y3,y4,y5,y6⟩:=hownQ.held 40 (HPL.out u) (by decide)
            simp only[Value.slice.injEq,Option.some.injEq,Addr.mk.injEq,and_true,true_and]at hv'
            obtain⟨rfl,rfl⟩:=hv'
            have cQ:=y5 (t+u) (by omega)
            have fQ:=y6 (t+u)
            obtain⟨e0,e1⟩:=bRu
            obtain⟨e2,e3⟩:=bQ
            have hm0:0≤x*R.getD u 0:=Int.mul_nonneg d0 e0
            have hm1:x*R.getD u 0≤130305:=by
             have h:=Int.mul_le_mul_of_nonneg_right d1 e0
             omega
            have HSU:Hid (Q (u+1)=(Q u).set (t+u) ((Q u).getD (t+u) 0+x*R.getD u 0)):=HSu
            generalize R.getD u 0=y at*
            generalize(Q u).getD (t+u) 0=p at*
            clear y5 y6 HSu
            go_wp2
            go_roundw
            case rel=>exact⟨u+1,by omega,by go_num,by rw[HSU.out];exact hownQ.set (t+u) (p+x*y),hbelQ.setCell (nQ _) _⟩
            case measure=>simp[intOf];omega
           ·obtain rfl:u=16:=by omega
            go_wp2
            go_roundw
            case rel=>exact⟨t+1,by omega,by go_num,by rw[HPI.out];exact hownQ,hbelQ⟩
            case measure=>simp[intOf];omega
         ·obtain rfl:t=19:=by omega
          have hin:=uT HS2.out HRB.out 19 (by decide)
          have HDg:Hid (jN (cK S R 19)):=fun i=>by have:=hin i;omega
          have HPv:Hid (aR (cK S R 19)=(iS (kR key) zs j+(aR D+256^q))*kR key):=by
           show _=_
           rw[uU S R HRL.out 19 (by rw[HL2'.out];exact nQ _) (by decide),List.take_of_length_le (by rw[HL2'.out];exact nQ _),HV2.out,HRV.out]
          have HPb:Hid (0≤aR (cK S R 19)∧aR (cK S R 19)<256^40):=by
           rw[HPv.out]
           have ha:=OL (kR key) zs j
           have hd:=nK D HDB.out
           have hr:=nK R HRB.out
           rw[HLD.out]at hd
           rw[HRL.out,HRV.out]at hr
           have hq16:(256:Int)^q≤256^16:=by exact_mod_cast Nat.pow_le_pow_right (n:=256) (by decide) hLa
           exact SR ha.1 ha.2 hd.1 (by omega) (yB q) hq16 hr.1 hr.2
          have HMv:=I7 (cK S R 19) HDg.out (by rw[dV];exact nQ _) HPb.out.1 HPb.out.2
          have HMV:Hid (aR (oP (cK S R 19))=iS (kR key) zs (j+1)∧aE (oP (cK S R 19))∧(oP (cK S R 19)).length=17):=by
           refine⟨?_,HMv.2⟩
           rw[HMv.1,HPv.out,iS,←HDA.out,HLD.out]
          clear hin HMv
          go_wp2_with fail
          refine(RV (cK S R 19) 40 (dV S R 19) HDg.out _ 40 W6 hownP.rd.2 (by decide)).mono ?_
          rintro e w9 ⟨v9,rfl,hown9,hbel9⟩
          have hb9:Below WR.heap.size WR w9:=((hbelA.trans (Hbel2.out.mono dD)).trans (hbelP.mono (by omega))).trans (hbel9.mono (by omega))
          go_wp2
          go_roundw
          case rel=>
           repeat apply Exists.intro
           refine⟨⟨j+1,oP (cK S R 19),?_,by omega,hown9.mono (by omega),HMV.out.2.2,HMV.out.2.1,HMV.out.1,hb9⟩,?_⟩
           rotate_left
           ·rfl
           ·go_num
          case measure=>simp[intOf];omega
    ·have hjm:j=(m+15) / 16:=by omega
     have HJ:Hid (j=(m+15) / 16):=hjm
     have hge:¬(((16*j:Nat):Int)<(m:Int)):=by omega
     have HKD:Hid (aE (key.drop 16)):=cE hkb 16
     have HKL':Hid ((key.drop 16).length=16):=by
      have h:=List.length_drop (i:=16) (l:=key)
      rw[HKL.out]at h
      exact h
     have HAb:Hid (∀i,0≤A.getD i 0∧A.getD i 0≤255):=hAb
     clear hjm hAb
     go_wp2
     go_loopw [17] (fun i wr=>∃q:Nat,q≤16∧i=.int .i64 q∧cC .i64 3 WR.heap.size wr (.slice (some ⟨gA,0,none⟩) 17 capA) (fC A (key.drop 16) q)∧Below WR.heap.size WR wr) (fun i _=>16 - (intOf i).toNat)
     case atStart=>exact⟨0,by omega,rfl,hownA,hbelA⟩
     case round=>
      obtain⟨q,hq,rfl,hownS,hbelS⟩:=hrel
      have hal:(fC A (key.drop 16) q).length=17:=by rw[jX,HAl.out]
      have HAL:Hid ((fC A (key.drop 16) q).length=17):=hal
      have hsS:=hbelS.size
      by_cases hq16:q<16
      ·obtain⟨gs',caps',hv',t1,t2,t3,t4,t5,t6⟩:=hownS.held 17 hal (by decide)
       simp only[Value.slice.injEq,Option.some.injEq,Addr.mk.injEq,and_true,true_and]at hv'
       obtain⟨rfl,rfl⟩:=hv'
       have cS:=t5 q (by omega)
       have fS:=t6 q
       have cz:wr.cell? ⟨w.heap.size,16+q,none⟩=some (.int .u8 ((key.drop 16).getD q 0)):=by
        rw[hbelS.cell (p:=⟨w.heap.size,16+q,none⟩) (by show w.heap.size<_;omega),hbel.cell (p:=⟨w.heap.size,16+q,none⟩) (by show w.heap.size<_;omega),World.cell?_alloc_past _ _ _ (by simp),World.cell?_alloc_at _ _ _ _ rfl,cN .u8 key (16+q) (by rw[HKL.out];omega)]
        simp[List.getD_eq_getElem?_getD,List.getElem?_drop,show 16+q<key.length by rw[HKL.out];omega]
       have bz:=HKD.out q
       have bS:=HAb.out q
       rw[mW _ _ q q (nQ _) (by rw[HAl.out];omega)]at cS
       have HST:Hid (fC A (key.drop 16) (q+1)=(fC A (key.drop 16) q).set q (A.getD q 0+(key.drop 16).getD q 0)):=by
        show _=_
        rw[fC,mW _ _ q q (nQ _) (by rw[HAl.out];omega)]
       obtain⟨p0,p1⟩:=bz
       obtain⟨p2,p3⟩:=bS
       generalize(key.drop 16).getD q 0=x at*
       generalize A.getD q 0=y at*
       clear t5 t6 hal
       go_wp2
       refine wRh 11 AD (by kernel_rfl) ?_
       simp only[tU,tJ,dJ,dY]
       repeat(go_big_quiet_step (fail))
       refine wqN ?_
       go_wp2
       go_roundw
       case rel=>exact⟨q+1,by omega,by go_num,by rw[HST.out];exact(cC.set (w:=wr.drew) hownS q (y+x)),hbelS.drew.setCell (by exact t1) _⟩
       case measure=>simp[intOf];omega
      ·obtain rfl:q=16:=by omega
       have hdin:=DP (B:=255) (by decide) HAb.out HKD.out 16 (by rw[HAl.out];decide)
       have HDg:Hid (jN (fC A (key.drop 16) 16)):=fun i=>by have:=hdin i;omega
       have HTG:Hid (gE (fC A (key.drop 16) 16) 16=gR key zs):=by
        show _=_
        rw[TK _ HDg.out (by rw[HAL.out];decide),uC _ _ 16 (by rw[HAl.out];decide) (by rw[HKL'.out];exact nQ _),QG key hkb HKL.out,HAv.out,HJ.out,gR,HM.out]
       generalize fC A (key.drop 16) 16=F at*
       clear hdin hal
       obtain⟨W7,rfl⟩:∃X,X=wr:=⟨_,rfl⟩
       go_wp2_with fail
       have hrd:Rd (W7.alloc (.cells (Iv .u8 (rQ 16 0)) 27)) (some ⟨gA,0,none⟩) F:=by
        have h:cC .i64 3 WR.heap.size (W7.alloc (.cells (Iv .u8 (rQ 16 0)) 27)) (.slice (some ⟨gA,0,none⟩) 17 capA) F:=World.ownsRow.alloc hownS _
        exact h.rd.2
       refine(yP F 17 16 16 rfl HAL.out HDg.out (by decide) _ capA (W7.alloc (.cells (Iv .u8 (rQ 16 0)) 27)) hrd (by decide)).mono ?_
       rintro e w8 ⟨v8,rfl,hown8,hbel8⟩
       rw[HTG.out]at hown8
       have HTl:Hid ((gR key zs).length=16):=by show _=_;simp[gR,gI]
       have HTb:Hid (aE (gR key zs)):=wS _
       obtain⟨gd,capd,rfl,y1,y2,y3,y4,y5,y6⟩:=hown8.held 16 HTl.out (by decide)
       have hs8:=hbel8.size
       have hs8':W7.heap.size+1≤w8.heap.size:=by simpa using hs8
       have y1':W7.heap.size+1≤gd:=by simpa using y1
       have hgo:w8.heap[W7.heap.size]? =some (.cells (Iv .u8 (rQ 16 0)) 27):=by
        rw[hbel8.block _ (by simp)]
        exact hAN _ _
       have hbR:Below WR.heap.size WR w8:=(hbelS.alloc hsS _).trans (hbel8.mono (by simp;omega))
       have hres:w8.heap[w.heap.size+1]? =some (.cells (Iv .u8 (rQ 16 0)) 27):=by
        rw[hbR.block _ (by omega),hbel.block _ (by omega)]
        simp only[bO,wU]
        simp
       have hbw8:Below w.heap.size w w8:=((((Below.refl w.heap.size w).alloc (by simp) _).alloc (by simp) _).trans (hbel.mono (by omega))).trans (hbR.mono (by omega))
       have HY:Hid (∀i,i<16→w8.cell? ⟨gd,i,none⟩=some (.int .i64 ((gR key zs).getD i 0))):=y5
       generalize hT:gR key zs=T at*
       have HT:Hid (gR key zs=T):=hT
       clear y5 y6 hown8 hrd hs8 y1 hownS hT
       go_wp2
       go_loopw [143] (fun i wr=>∃t:Nat,t≤16∧i=.int .i64 t∧wr=w8.setRow W7.heap.size (Iv .u8 (T.take t++rQ (16 - t) 0))) (fun i _=>16 - (intOf i).toNat)
       case atStart=>
        refine⟨0,by omega,rfl,?_⟩
        rw[PG,iD _ _ _ _ _ hgo]
       case round=>
        obtain⟨t,ht,rfl,rfl⟩:=hrel
        by_cases ht16:t<16
        ·have ct:(w8.setRow W7.heap.size (Iv .u8 (T.take t++rQ (16 - t) 0))).cell? ⟨gd,t,none⟩=some (.int .i64 (T.getD t 0)):=by
          rw[aZ _ _ _ _ (by show gd≠_;omega)]
          exact HY.out t ht16
         have co:∃v,(w8.setRow W7.heap.size (Iv .u8 (T.take t++rQ (16 - t) 0))).cell? ⟨W7.heap.size,t,none⟩=some v:=by
          rw[eO _ _ _ _ _ _ _ hgo]
          exact jW _ _ _ (by rw[lQ,List.length_take,HTl.out,rJ];omega)
         obtain⟨vo,hvo⟩:=co
         have fo:(w8.setRow W7.heap.size (Iv .u8 (T.take t++rQ (16 - t) 0))).frozen? ⟨W7.heap.size,t,none⟩=false:=by rw[iF];exact frozen_of_row _ _ _ _ _ hgo
         have bt:=HTb.out t
         obtain⟨z0,z1⟩:=bt
         have HFS:Hid ((T.take t++rQ (16 - t) 0).set t (T.getD t 0)=T.take (t+1)++rQ (16 - (t+1)) 0):=by
          have h:=qF T 16 t HTl.out ht16 0
          have hg:T.getD t 0=T[t]'(by rw[HTl.out];exact ht16):=by simp[show t<T.length by rw[HTl.out];exact ht16]
          rw[hg]
          exact h
         generalize T.getD t 0=x at*
         go_wp2
         go_roundw
         case rel=>exact⟨t+1,by omega,by go_num,by rw[aL,bN,HFS.out]⟩
         case measure=>simp[intOf];omega
        ·obtain rfl:t=16:=by omega
         rw[uG T 16 HTl.out]
         have hit:(prog.info? 27).map (·.size)=some (Iv .u8 T).size:=by rw[aD,HTl.out];exact aaH
         have hg1:(w8.setRow W7.heap.size (Iv .u8 T)).heap[W7.heap.size]? =some (.cells (Iv .u8 T) 27):=setRow_heap _ _ _ _ _ _ hgo
         have hg2:(w8.setRow W7.heap.size (Iv .u8 T)).heap[w.heap.size+1]? =some (.cells (Iv .u8 (rQ 16 0)) 27):=by
          rw[cG _ _ _ _ (by omega)]
          exact hres
         have hsz16:(Iv .u8 (rQ 16 0)).size=(Iv .u8 T).size:=by rw[aD,aD,HTl.out,rJ]
         have hbf:=aM hbw8 W7.heap.size (by omega) (Iv .u8 T)
         generalize w8.setRow W7.heap.size (Iv .u8 T)=W9 at*
         have HSZ:Hid ((Iv .u8 (rQ 16 0)).size=(Iv .u8 T).size):=hsz16
         clear hsz16
         go_wp2_with(first|refine wpLr rfl 27 _ rfl _ rfl _ (Iv .u8 T) _ _ hg1 underlying27 rfl hit ?_ |refine wpList_store_row rfl 27 _ _ rfl _ (Iv .u8 T) rfl rfl _ _ hg2 hit HSZ.out (aG _ _) ?_)
         refine oT (cs:=Iv .u8 T) results84 ?_ (setRow_heap _ _ _ _ _ _ hg2) underlying27 hit ?_
         ·rfl
         ·exact⟨by rw[HT.out],aM hbf _ (by omega) _⟩
theorem QA:IG 140:=fun K zs b cap W hK hKb hzb hl hc hc2 hS=>YJ K zs zs.length b 0 cap W rfl hK hKb hzb hS.1 hc hc2 hS.2
theorem QC:IG 84:=fun K zs b cap W hK hKb hzb hl hc hc2 hS=>YW K zs zs.length (some ⟨b,0,none⟩) cap W rfl (by omega) hK hKb hzb (fun i hi=>⟨b,0,rfl,hS.1,hS.2 i hi⟩)
theorem WU (key nonce:List Int) (i:Nat):(blk key nonce i).length=64:=by simp[blk,iA,pF9]
theorem WT (key nonce:List Int) (i:Nat):aE (blk key nonce i):=by
 intro j
 unfold blk iA
 simp only[List.getD_eq_getElem?_getD]
 rw[cV _ _ _ _ _ (by simp)]
 split
 ·simp only[Option.getD_some,jA]
  omega
 ·rw[List.getElem?_replicate]
  split<;>simp
theorem Sl.of_range {w:World} {g o:Nat} {l:List Int} (hg:g<w.heap.size) (h:w.rangeAt g o (l.map (Value.int .u8))):Sl w g o l:=
 ⟨hg,fun i hi=>h i (.int .u8 (l.getD i 0)) (by simp[hi])⟩
theorem Q6 {w w':World} {g:Nat} (h:w'.heap[g]? =w.heap[g]?) (o:Nat):w'.cell? ⟨g,o,none⟩=w.cell? ⟨g,o,none⟩:=by
 unfold World.cell?
 simp only[h]
theorem Sl.turn {y z:World} {g o b:Nat} {l:List Int} {cs:List Value} {t:TypeId} (h:Sl y g o l) (hT:Tn y b cs t z) (hne:g≠b):Sl z g o l:=
 ⟨nJ h.1 hT.size,fun i hi=>(Q6 (hT.far g h.1 hne) _).trans (h.2 i hi)⟩
def zn:List Int:=aA 12
theorem IE (n:Nat):aE (aA n):=by
 intro i
 have e:(aA n).getD i 0=0:=by
  unfold aA
  simp only[List.getD_eq_getElem?_getD,List.getElem?_replicate]
  split<;>rfl
 rw[e];exact⟨by decide,by decide⟩
theorem afS:aE zn:=IE 12
theorem kJ:prog.follows .mixedOrders=true:=by kernel_rfl
theorem O2 (a:Nat) (ha:a<18446744073709551616):bits .and .u64 (a:Int) 4294967295=((a%4294967296:Nat):Int):=by
 have h:=bits_and_u64_nat a 4294967295 ha (by omega)
 have e:a&&& 4294967295=a%4294967296:=Nat.and_two_pow_sub_one_eq_mod a 32
 rw[e]at h
 exact h
theorem aeE (a:Nat):(a:Int) / 4294967296=((a / 4294967296:Nat):Int):=by omega
theorem aeF (a b:Nat):(a:Int)*(b:Int)=((a*b:Nat):Int):=(Int.natCast_mul a b).symm
theorem aeD (a b:Nat):(a:Int)+(b:Int)=((a+b:Nat):Int):=(Int.natCast_add a b).symm
theorem uF (a:Nat) (ha:a<18446744073709551616):IntKind.u64.wrap (a:Int)=(a:Int):=by rw[IntKind.wrap_u64];omega
theorem aaA (a:Nat):IntKind.u64.wrap (a:Int)=((a%18446744073709551616:Nat):Int):=by rw[IntKind.wrap_u64];omega
set_option maxHeartbeats 1000000 in
theorem U0 (x y:Nat) (hx:x<18446744073709551616) (hy:y<18446744073709551616) (w:World):
 Calls prog 146 #[.int .u64 x,.int .u64 y] w fun e w'=>e=.returned (.tuple #[.int .u64 ((x*y / 18446744073709551616:Nat):Int),.int .u64 ((x*y%18446744073709551616:Nat):Int)])∧w'=w:=by
 obtain⟨bd,bt,bw,hhi⟩:=Lib.mul64_hi x y hx hy
 have ba:=Lib.half_mul_le (a:=x / 4294967296) (b:=y / 4294967296) (by omega) (by omega)
 have bb:=Lib.half_mul_le (a:=x / 4294967296) (b:=y%4294967296) (by omega) (by omega)
 have bc:=Lib.half_mul_le (a:=x%4294967296) (b:=y / 4294967296) (by omega) (by omega)
 have ba':x / 4294967296*(y / 4294967296)<18446744073709551616:=by omega
 have bb':x / 4294967296*(y%4294967296)<18446744073709551616:=by omega
 have bc':x%4294967296*(y / 4294967296)<18446744073709551616:=by omega
 have bh1:x / 4294967296*(y / 4294967296)+(x / 4294967296*(y%4294967296)+x%4294967296*(y%4294967296) / 4294967296) / 4294967296<18446744073709551616:=by omega
 have bh:x / 4294967296*(y / 4294967296)+(x / 4294967296*(y%4294967296)+x%4294967296*(y%4294967296) / 4294967296) / 4294967296+((x / 4294967296*(y%4294967296)+x%4294967296*(y%4294967296) / 4294967296)%4294967296+x%4294967296*(y / 4294967296)) / 4294967296<18446744073709551616:=by omega
 go_enter func146,ntmps146
 go_wp2
 simp only[O2 x hx,O2 y hy,aeE,aeF,aeD,uF _ bd,uF _ bb',uF _ bt,O2 _ bt,uF _ bc',uF _ bw,uF _ ba',uF _ bh1,uF _ bh,aaA (x*y)]
 rw[hhi]
 go_ret2
 exact⟨rfl,rfl⟩
theorem UZ (x y:Int) (hx:0≤x∧x≤18446744073709551615) (hy:0≤y∧y≤18446744073709551615) (w:World):
 Calls prog 146 #[.int .u64 x,.int .u64 y] w fun e w'=>e=.returned (.tuple #[.int .u64 (x*y / 18446744073709551616),.int .u64 (x*y%18446744073709551616)])∧w'=w:=by
 obtain⟨a,rfl⟩:∃a:Nat,x=a:=⟨x.toNat,by omega⟩
 obtain⟨b,rfl⟩:∃b:Nat,y=b:=⟨y.toNat,by omega⟩
 refine(U0 a b (by omega) (by omega) w).mono ?_
 rintro e w' ⟨rfl,rfl⟩
 refine⟨?_,rfl⟩
 simp only[←Int.natCast_mul,Int.natCast_ediv,Int.natCast_emod]
 rfl
theorem DO (x y c:Int) (hx:0≤x) (hy:0≤y) (hc0:0≤c) (hc:c≤1) (w:World):
 (callFunc 147 #[.int .u64 x,.int .u64 y,.int .u64 c]).run prog w=.ok (.value (.tuple #[.int .u64 ((x+y+c)%18446744073709551616),.int .u64 ((x+y+c) / 18446744073709551616)])) w:=by
 rw[run_callFunc_extern func147 (by kernel_rfl) (by kernel_rfl) (by kernel_rfl) (e:=add64Entry) (by kernel_rfl),run_add64 x y c hx hy hc0 hc]
 rfl
def bI (v:Int):Array Value:=#[.int .u64 (v / 18446744073709551616),.int .u64 (v%18446744073709551616)]
theorem abN:(prog.info? 225).map (·.size)=some 2:=by kernel_rfl
set_option maxHeartbeats 1000000 in
theorem bR (v a b:Int) (hv:0≤v) (ha:0≤a∧a≤18446744073709551615) (hb:0≤b∧b≤18446744073709551615) (hs:v+a*b<340282366920938463463374607431768211456) (r:Int) (hr:v+a*b=r) (w:World):
 Calls prog 135 #[.agg (bI v),.int .u64 a,.int .u64 b] w fun e w'=>e=.returned (.agg (bI r))∧Below w.heap.size w w':=by
 have h0:0≤a*b:=Int.mul_nonneg ha.1 hb.1
 have HM:Hid (∀W,Calls prog 146 #[.int .u64 a,.int .u64 b] W fun e w'=>e=.returned (.tuple #[.int .u64 (a*b / 18446744073709551616),.int .u64 (a*b%18446744073709551616)])∧w'=W):=fun W=>UZ a b ha hb W
 generalize a*b=q at*
 obtain⟨H,eH⟩:∃H,v / 18446744073709551616=H:=⟨_,rfl⟩
 obtain⟨L,eL⟩:∃L,v%18446744073709551616=L:=⟨_,rfl⟩
 obtain⟨h,eh⟩:∃h,q / 18446744073709551616=h:=⟨_,rfl⟩
 obtain⟨l,el⟩:∃l,q%18446744073709551616=l:=⟨_,rfl⟩
 have HW:Hid (#[Value.int .u64 ((H+h+(L+l) / 18446744073709551616)%18446744073709551616),.int .u64 ((L+l)%18446744073709551616)]=bI r):=by
  show _=_
  unfold bI
  have e1:(H+h+(L+l) / 18446744073709551616)%18446744073709551616=r / 18446744073709551616:=by omega
  have e2:(L+l)%18446744073709551616=r%18446744073709551616:=by omega
  rw[e1,e2]
 have hH:0≤H:=by omega
 have hL:0≤L:=by omega
 have hh:0≤h:=by omega
 have hl:0≤l:=by omega
 have A1:=DO L l 0 hL hl (by decide) (by decide)
 simp only[Int.add_zero]at A1
 have A2:=DO H h ((L+l) / 18446744073709551616) hH hh (by omega) (by omega)
 rw[show bI v=#[.int .u64 H,.int .u64 L] by unfold bI;rw[eH,eL]]
 rw[eh,el]at HM
 clear eH eL eh el hs hr hv h0
 go_enter func135,ntmps135
 go_wp2_with fail
 refine(HM.out _).mono ?_
 rintro e w' ⟨rfl,rfl⟩
 go_wp2
 refine bodyPost_ret (results_cell_row rfl _ _ _ _ #[.int .u64 ((H+h+(L+l) / 18446744073709551616)%18446744073709551616),.int .u64 ((L+l)%18446744073709551616)] _ _ rfl (by rw[bO,if_pos (by simp)]) underlying225 rfl abN) rfl ⟨?_,((Below.refl _ _).alloc (nQ _) _).alloc (by simp) _⟩
 exact congrArg _ (congrArg _ HW.out)
theorem ac1 (k:Nat) (m x y:Int) (hm:m=((2^k:Nat):Int)) (hx:0≤x) (hy:0≤y) (hyk:y<m) (h:x*m+y<18446744073709551616):bits .or .u64 (x*m) y=x*m+y:=by
 obtain⟨a,rfl⟩:∃a:Nat,x=a:=⟨x.toNat,by omega⟩
 obtain⟨b,rfl⟩:∃b:Nat,y=b:=⟨y.toNat,by omega⟩
 subst hm
 have e:(a:Int)*((2^k:Nat):Int)=((2^k*a:Nat):Int):=by rw[Nat.mul_comm,Int.natCast_mul]
 rw[e]at h⊢
 have hb:b<2^k:=Int.ofNat_lt.1 hyk
 rw[bits_or_u64_nat _ _ (by omega) (by omega),←Nat.two_pow_add_eq_or_of_lt hb a]
 omega
theorem vT (k:Nat) (m x y:Int) (hm:m=((2^k:Nat):Int)) (hx:0≤x) (hy:0≤y) (hyk:y<m) (h:x*m+y<18446744073709551616):bits .or .u64 y (x*m)=x*m+y:=by
 obtain⟨a,rfl⟩:∃a:Nat,x=a:=⟨x.toNat,by omega⟩
 obtain⟨b,rfl⟩:∃b:Nat,y=b:=⟨y.toNat,by omega⟩
 subst hm
 have e:(a:Int)*((2^k:Nat):Int)=((2^k*a:Nat):Int):=by rw[Nat.mul_comm,Int.natCast_mul]
 rw[e]at h⊢
 have hb:b<2^k:=Int.ofNat_lt.1 hyk
 rw[bits_or_u64_nat _ _ (by omega) (by omega),Nat.or_comm,←Nat.two_pow_add_eq_or_of_lt hb a]
 omega
theorem nP (x:Int) (hx:0≤x) (hx2:x<18446744073709551616):bits .and .u64 x 2251799813685247=x%2251799813685248:=by
 obtain⟨a,rfl⟩:∃a:Nat,x=a:=⟨x.toNat,by omega⟩
 have h:=bits_and_u64_nat a 2251799813685247 (by omega) (by decide)
 have e:a&&& 2251799813685247=a%2251799813685248:=Nat.and_two_pow_sub_one_eq_mod a 51
 rw[e]at h
 rw[show((a%2251799813685248:Nat):Int)=(a:Int)%2251799813685248 by omega]at h
 exact h
set_option maxHeartbeats 1000000 in
theorem kS (v:Int) (hv:0≤v) (hs:v<41538374868278621028243970633760768) (w:World):
 Calls prog 136 #[.agg (bI v)] w fun e w'=>e=.returned (.int .u64 (v / 2251799813685248))∧Below w.heap.size w w':=by
 obtain⟨H,eH⟩:∃H,v / 18446744073709551616=H:=⟨_,rfl⟩
 obtain⟨L,eL⟩:∃L,v%18446744073709551616=L:=⟨_,rfl⟩
 have hH0:0≤H:=by omega
 have hL0:0≤L:=by omega
 have hH2:H<2251799813685248:=by omega
 have hL2:L<18446744073709551616:=by omega
 have HV:Hid (bits .or .u64 (H*8192) (L / 2251799813685248)=v / 2251799813685248):=by
  show _=_
  rw[ac1 13 8192 H (L / 2251799813685248) (by decide) hH0 (by omega) (by omega) (by omega)]
  omega
 rw[show bI v=#[.int .u64 H,.int .u64 L] by unfold bI;rw[eH,eL]]
 clear eH eL hs hv
 go_enter func136,ntmps136
 go_wp2
 go_ret
 exact⟨congrArg _ (congrArg _ HV.out),(Below.refl _ _).alloc (nQ _) _⟩
def pF:Int:=57896044618658097711785492504343953926634992332820282019728792003956564819949
def mN (a b c d e:Int):Int:=a+2251799813685248*b+5070602400912917605986812821504*c+11417981541647679048466287755595961091061972992*d+25711008708143844408671393477458601640355247900524685364822016*e
def El (a b c d e:Int):Prop:=(0≤a∧a<2251799813685312)∧(0≤b∧b<2251799813685248)∧(0≤c∧c<2251799813685248)∧(0≤d∧d<2251799813685248)∧(0≤e∧e<2251799813685248)
theorem kI:(prog.info? 211).map (·.size)=some 5:=by kernel_rfl
theorem MD (x0 x1 x2 x3 x4:Int) (h0:0≤x0∧x0≤9223372036854775807) (h1:0≤x1∧x1≤6755399441055744) (h2:0≤x2∧x2≤6755399441055744) (h3:0≤x3∧x3≤6755399441055744) (h4:0≤x4∧x4≤6755399441055744)
 (y0 y1 y2 y3 y4 c0 c1 c2 c3 c4:Int) (e0:y0=x0) (f0:c0=y0 / 2251799813685248) (e1:y1=x1+c0) (f1:c1=y1 / 2251799813685248) (e2:y2=x2+c1) (f2:c2=y2 / 2251799813685248) (e3:y3=x3+c2) (f3:c3=y3 / 2251799813685248) (e4:y4=x4+c3) (f4:c4=y4 / 2251799813685248):
 El (y0%2251799813685248+19*c4) (y1%2251799813685248) (y2%2251799813685248) (y3%2251799813685248) (y4%2251799813685248)∧
 mN (y0%2251799813685248+19*c4) (y1%2251799813685248) (y2%2251799813685248) (y3%2251799813685248) (y4%2251799813685248)=mN x0 x1 x2 x3 x4 - c4*pF:=by
 unfold El mN pF
 omega
def mZ (x0 x1 x2 x3 x4:Int):List Int:=
 let c0:=x0 / 2251799813685248
 let c1:=(x1+c0) / 2251799813685248
 let c2:=(x2+c1) / 2251799813685248
 let c3:=(x3+c2) / 2251799813685248
 let c4:=(x4+c3) / 2251799813685248
 [x0%2251799813685248+19*c4,(x1+c0)%2251799813685248,(x2+c1)%2251799813685248,(x3+c2)%2251799813685248,(x4+c3)%2251799813685248]
def vL:List Int→Int
 | [a,b,c,d,e]=>mN a b c d e
 | _=>0
def fY:List Int→Prop
 | [a,b,c,d,e]=>El a b c d e
 | _=>False
theorem fY.five {l:List Int} (h:fY l):∃a b c d e,l=[a,b,c,d,e]∧El a b c d e:=by
 match l,h with
 | [a,b,c,d,e],h=>exact⟨a,b,c,d,e,rfl,h⟩
theorem fY.length {l:List Int} (h:fY l):l.length=5:=by
 obtain⟨a,b,c,d,e,rfl,_⟩:=h.five
 rfl
def bU (l:List Int) (n:Int):Prop:=fY l∧∃q,vL l=n - q*pF
theorem yO (x0 x1 x2 x3 x4:Int) (h0:0≤x0∧x0≤9223372036854775807) (h1:0≤x1∧x1≤6755399441055744) (h2:0≤x2∧x2≤6755399441055744) (h3:0≤x3∧x3≤6755399441055744) (h4:0≤x4∧x4≤6755399441055744):bU (mZ x0 x1 x2 x3 x4) (mN x0 x1 x2 x3 x4):=by
 have h:=MD x0 x1 x2 x3 x4 h0 h1 h2 h3 h4 _ _ _ _ _ _ _ _ _ _ rfl rfl rfl rfl rfl rfl rfl rfl rfl rfl
 exact⟨h.1,_,h.2⟩
theorem bC {l:List Int} (h:l.length=5):(prog.info? 211).map (·.size)=some (Iv .u64 l).size:=by rw[aD,h];exact kI
theorem JY {l:List Int} (h:l.length=5):(Iv .u64 [0,0,0,0,0]).size=(Iv .u64 l).size:=by rw[aD,aD,h];rfl
set_option maxHeartbeats 4000000 in
theorem nS (x0 x1 x2 x3 x4:Int) (h0:0≤x0∧x0≤9223372036854775807) (h1:0≤x1∧x1≤6755399441055744) (h2:0≤x2∧x2≤6755399441055744) (h3:0≤x3∧x3≤6755399441055744) (h4:0≤x4∧x4≤6755399441055744) (w:World):
 Calls prog 134 #[.agg (Iv .u64 [x0,x1,x2,x3,x4])] w fun e w'=>e=.returned (.agg (Iv .u64 (mZ x0 x1 x2 x3 x4)))∧Below w.heap.size w w':=by
 obtain⟨R,hR⟩:∃R,mZ x0 x1 x2 x3 x4=R:=⟨_,rfl⟩
 have HR:Hid _:=hR
 rw[hR]
 clear hR
 obtain⟨c0,f0⟩:∃c,c=x0 / 2251799813685248:=⟨_,rfl⟩
 obtain⟨c1,f1⟩:∃c,c=(x1+c0) / 2251799813685248:=⟨_,rfl⟩
 obtain⟨c2,f2⟩:∃c,c=(x2+c1) / 2251799813685248:=⟨_,rfl⟩
 obtain⟨c3,f3⟩:∃c,c=(x3+c2) / 2251799813685248:=⟨_,rfl⟩
 obtain⟨c4,f4⟩:∃c,c=(x4+c3) / 2251799813685248:=⟨_,rfl⟩
 have k0:0≤c0∧c0≤4096:=by omega
 have k1:0≤c1∧c1≤4:=by omega
 have k2:0≤c2∧c2≤4:=by omega
 have k3:0≤c3∧c3≤4:=by omega
 have k4:0≤c4∧c4≤4:=by omega
 have a0:=nP x0 h0.1 (by omega)
 have a1:=nP (x1+c0) (by omega) (by omega)
 have a2:=nP (x2+c1) (by omega) (by omega)
 have a3:=nP (x3+c2) (by omega) (by omega)
 have a4:=nP (x4+c3) (by omega) (by omega)
 obtain⟨r0,e0⟩:∃r,x0%2251799813685248=r:=⟨_,rfl⟩
 obtain⟨r1,e1⟩:∃r,(x1+c0)%2251799813685248=r:=⟨_,rfl⟩
 obtain⟨r2,e2⟩:∃r,(x2+c1)%2251799813685248=r:=⟨_,rfl⟩
 obtain⟨r3,e3⟩:∃r,(x3+c2)%2251799813685248=r:=⟨_,rfl⟩
 obtain⟨r4,e4⟩:∃r,(x4+c3)%2251799813685248=r:=⟨_,rfl⟩
 have l0:0≤r0∧r0<2251799813685248:=by omega
 have HN:Hid ([r0+19*c4,r1,r2,r3,r4]=R):=by
  show _=_
  rw[←HR.out]
  unfold mZ
  simp only
  rw[←f0,←f1,←f2,←f3,←f4,e0,e1,e2,e3,e4]
 rw[e0]at a0
 rw[e1]at a1
 rw[e2]at a2
 rw[e3]at a3
 rw[e4]at a4
 have F0:=f0.symm
 have F1:=f1.symm
 have F2:=f2.symm
 have F3:=f3.symm
 have F4:=f4.symm
 clear f0 f1 f2 f3 f4 e0 e1 e2 e3 e4 HR
 have hrow:∀a b c d e:Int,Iv .u64 [a,b,c,d,e]=#[.int .u64 a,.int .u64 b,.int .u64 c,.int .u64 d,.int .u64 e]:=fun _ _ _ _ _=>rfl
 rw[hrow]
 go_enter func134,ntmps134
 go_wp2
 refine wp_loop_rounds 6 ?_
 iterate 6 (rw[rdS];go_wp2)
 refine bodyPost_ret (v:=.agg (Iv .u64 [r0+19*c4,r1,r2,r3,r4])) (results_cell_row rfl _ _ _ _ (Iv .u64 [r0+19*c4,r1,r2,r3,r4]) _ _ rfl (by rw[bO,if_pos (by simp)];rfl) underlying211 rfl kI) rfl ⟨?_,((Below.refl _ _).alloc (by simp) _).alloc (by simp) _⟩
 rw[HN.out]
end Go.Proofs.YtgcepckaolkeoaaGreatDoor
