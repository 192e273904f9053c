import Derived.Test.YtmjccemdldidaaaGreatDoorMH19
import Derived.Test.YtmjccemdldidaaaGreatDoorMH13
namespace Go.Proofs.YtmjccemdldidaaaGreatDoor
open Go.RowKit
open Go.Proofs.Tryz
open Go renaming wpQuiet_nil → wqN
open Go.World renaming block_lt_of_cell? → wJ
open List renaming cons_append → cA, drop_succ_cons → dJ, drop_zero → dY, length_append → lQ, length_set → lJ, nil_append → nA, replicate → rQ, set_cons_zero → sY, take_succ_cons → tU, take_succ_eq_append_getElem → tQ, take_zero → tJ
open Nat renaming le_refl → nQ
set_option linter.unusedVariables false
set_option maxHeartbeats 8000000
set_option maxRecDepth 100000
def TR (d:LI):Nat→Int
 | 0=>0
 | k+1=>(TR d k+d.getD k 0) / 256
def WY (d:LI) (k:Nat):Int:=(TR d k+d.getD k 0)%256
def jV (d:LI):Prop:=∀i,0≤d.getD i 0∧d.getD i 0≤1099511627776
theorem abZ {d:LI} (h:jV d):∀k,0≤TR d k∧TR d k≤1099511627776
 | 0=>by simp[TR]
 | k+1=>by
   have h1:=abZ h k
   have h2:=h k
   simp only[TR]
   omega
def gM (d:LI) (n:Nat):LI:=(List.range n).map (WY d)
theorem jB (d:LI) (n:Nat):(gM d n).length=n:=by simp[gM]
theorem IA (d:LI) (n:Nat):gM d (n+1)=gM d n++[WY d n]:=by simp[gM,List.range_succ]
theorem pA (d:LI) (n:Nat):aC (gM d n):=by
 intro i
 simp only[gM,List.getD_eq_getElem?_getD,List.getElem?_map]
 by_cases h:i<n
 ·rw[List.getElem?_range h]
  simp only[Option.map_some,Option.getD_some,WY]
  omega
 ·rw[List.getElem?_eq_none (by simp;omega)]
  simp
theorem fH:∀(l r:LI),aU (l++r)=aU l+256^l.length*aU r
 | [],r=>by simp[aU]
 | x::l,r=>by
   have:=fH l r
   simp only[cA,aU,this,List.length_cons,Int.pow_succ,Int.mul_add]
   rw[←Int.mul_assoc,Int.mul_comm 256 (256^l.length)]
   omega
def A8 (d:LI):Nat→Int
 | 0=>0
 | n+1=>A8 d n+256^n*d.getD n 0
theorem D4 (d:LI):∀n,aU (gM d n)+256^n*TR d n=A8 d n
 | 0=>by simp[gM,aU,A8,TR]
 | n+1=>by
   have ih:=D4 d n
   rw[IA,fH,jB]
   simp only[aU,A8,←ih,WY,TR,Int.pow_succ,Int.mul_assoc,Int.mul_zero,Int.add_zero]
   rw[Int.add_assoc,Int.add_assoc,←Int.mul_add,←Int.mul_add]
   congr 2
   omega
theorem zN (d:LI):∀n,A8 d n=aU (d.take n)
 | 0=>by simp[A8,aU]
 | n+1=>by
   rw[A8,zN d n]
   by_cases h:n<d.length
   ·rw[tQ h,fH,List.length_take,Nat.min_eq_left (by omega)]
    simp[aU,h]
   ·rw[List.take_of_length_le (by omega),List.take_of_length_le (by omega)]
    simp[List.getD_eq_getElem?_getD,List.getElem?_eq_none (show d.length≤n by omega)]
theorem aaO (d:LI) (n:Nat) (h:d.length≤n):A8 d n=aU d:=by rw[zN,List.take_of_length_le h]
theorem zT (n:Nat):(0:Int)<256^n:=Int.pow_pos (by decide)
theorem oP:∀(l:LI),aC l→0≤aU l∧aU l<256^l.length
 | [],_=>by simp[aU]
 | x::l,h=>by
   have h0:0≤x∧x≤255:=h 0
   have ih:=oP l (fun i=>by have:=h (i+1);simpa using this)
   simp only[aU,List.length_cons,Int.pow_succ]
   omega
theorem LO (d:LI) (hd:jV d) (n:Nat):aU (gM d n)=A8 d n%256^n:=by
 have h:=D4 d n
 have hb:=oP _ (pA d n)
 rw[jB]at hb
 rw[←h,Int.add_mul_emod_self_left]
 exact(Int.emod_eq_of_lt hb.1 hb.2).symm
theorem zD (d:LI) (hd:jV d) (n:Nat) (hl:d.length≤n) (h0:0≤aU d) (h:aU d<256^n):aU (gM d n)=aU d:=by
 rw[LO d hd n,aaO d n hl]
 exact Int.emod_eq_of_lt h0 h
def rI:LI→LI
 | []=>[]
 | x::r=>(x / 4+(r.headD 0%4)*64)::rI r
theorem sM:∀l,(rI l).length=l.length
 | []=>rfl
 | x::r=>by simp[rI,sM r]
theorem MJ:∀(r:LI),aU r%4=r.headD 0%4
 | []=>rfl
 | x::r=>by simp[aU];omega
theorem JM:∀l,aU (rI l)=aU l / 4
 | []=>rfl
 | x::r=>by
   have ih:=JM r
   have hh:=MJ r
   simp only[rI,aU,ih]
   omega
theorem JL:∀(l:LI) (i:Nat),i<l.length→(rI l).getD i 0=l.getD i 0 / 4+(l.getD (i+1) 0%4)*64
 | [],i,h=>by simp at h
 | x::r,0,_=>by cases r<;>simp[rI]
 | x::r,i+1,h=>by
   have:=JL r i (by simpa using h)
   simpa[rI]using this
def mM:LI→LI→LI
 | l,[]=>l
 | [],y::r=>(5*y)::mM [] r
 | x::l,y::r=>(x+5*y)::mM l r
theorem zA:∀l r,aU (mM l r)=aU l+5*aU r
 | l,[]=>by simp[mM,aU]
 | [],y::r=>by
   have:=zA [] r
   simp only[mM,aU,this]
   omega
 | x::l,y::r=>by
   have:=zA l r
   simp only[mM,aU,this]
   omega
def tK (d:LI):LI:=mM ((d.take 16)++[d.getD 16 0%4]) (rI (d.drop 16))
theorem T9 (d:LI) (hb:aC d) (h:17≤d.length):aU (tK d)=aU d%1361129467683753853853498429727072845824+5*(aU d / 1361129467683753853853498429727072845824):=by
 have hsplit:aU d=aU (d.take 16)+340282366920938463463374607431768211456*aU (d.drop 16):=by
  have:=fH (d.take 16) (d.drop 16)
  rw[List.take_append_drop,List.length_take,Nat.min_eq_left (by omega)]at this
  exact this
 have ht:=oP (d.take 16) (dB hb 16)
 rw[List.length_take,Nat.min_eq_left (by omega)]at ht
 have hh:=MJ (d.drop 16)
 have hd16:(d.drop 16).headD 0=d.getD 16 0:=by
  rw[List.headD_eq_head?_getD,List.head?_drop,List.getD_eq_getElem?_getD]
 rw[hd16]at hh
 unfold tK
 rw[zA,fH,JM,List.length_take,Nat.min_eq_left (by omega)]
 simp only[aU]
 have hpow:(256:Int)^16=340282366920938463463374607431768211456:=by decide
 rw[hpow]at*
 omega
def Rd (w:World) (a:Option Addr) (d:LI):Prop:=∀i,i<d.length→∃b o,a=some ⟨b,o,none⟩∧w.cell? ⟨b,o+i,none⟩=some (.int .i64 (d.getD i 0))
theorem qU:(prog.info? 3).map (fun i=>(i.zero,i.size,i.bytes))=some (some (.int .i64 0),1,8):=by kernel_rfl
theorem Y7 (d:LI) (m n:Nat) (hm:d.length=m) (hd:jV d) (hn:n≤40) (a:Option Addr) (cap:Nat) (w:World) (hr:Rd w a d) (hm2:m≤1000):
 Calls prog 93 #[.slice a m cap,.int .i64 n] w fun e w'=>∃v,e=.returned v∧bM .i64 3 w.heap.size w' v (gM d n)∧Below w.heap.size w w':=by
 go_enter func93,ntmps93
 go_wp2
 go_loopw [5,6,7] (fun v c i wr=>∃k:Nat,k≤n∧i=.int .i64 k∧c=.int .i64 (TR d k)∧bM .i64 3 w.heap.size wr v (gM d k)∧Below w.heap.size w wr) (fun _ _ i _=>n - (intOf i).toNat)
 case atStart=>
  exact⟨0,Nat.zero_le _,rfl,rfl,bM.nil w (nQ _),(Below.refl _ _).alloc (nQ _) _⟩
 case round=>
  obtain⟨k,hk,rfl,rfl,hown,hbel⟩:=hrel
  have hc:=abZ hd k
  have hdk:=hd k
  have HS:Hid (TR d (k+1)=(TR d k+d.getD k 0) / 256∧gM d (k+1)=gM d k++[(TR d k+d.getD k 0)%256]):=⟨rfl,IA d k⟩
  obtain⟨hc0,hc1⟩:=hc
  obtain⟨hd0,hd1⟩:=hdk
  have hlen:=jB d k
  have HL:Hid ((gM d k).length≤100000000):=by show _≤_;omega
  have hsz:=hbel.size
  clear hlen
  by_cases hlt:k<n
  ·by_cases hkm:k<m
   ·obtain⟨b,o,rfl,hcell⟩:=hr k (by omega)
    have hck:wr.cell? ⟨b,o+k,none⟩=some (.int .i64 (d.getD k 0)):=(hbel.cell (p:=⟨b,o+k,none⟩) (wJ _ _ hcell)).trans hcell
    generalize d.getD k 0=x at*
    generalize hcc:TR d k=c at*
    clear hr hcell hd hcc
    go_wp2_with(at_builtin;refine cK .i64 180 3 8 underlying180 qU (by decide) rfl (.tmp 24) (.tmp 27) rfl w.heap.size w wr _ (gM d k) _ rfl rfl hown hbel hsz HL.out ?_;intro v' w' hown' hbel' _ _)
    go_roundw
    case rel=>exact⟨k+1,by omega,by go_num,by rw[HS.out.1],by rw[HS.out.2];exact hown',hbel'⟩
    case measure=>simp[intOf];omega
   ·have hx:d.getD k 0=0:=by simp[List.getD_eq_getElem?_getD,List.getElem?_eq_none (show d.length≤k by omega)]
    have HX:Hid (d.getD k 0=0):=hx
    generalize hcc:TR d k=c at*
    clear hr hd hcc hx
    go_wp2_with(at_builtin;refine cK .i64 180 3 8 underlying180 qU (by decide) rfl (.tmp 24) (.tmp 27) rfl w.heap.size w wr _ (gM d k) _ rfl rfl hown hbel hsz HL.out ?_;intro v' w' hown' hbel' _ _)
    go_roundw
    case rel=>exact⟨k+1,by omega,by go_num,by rw[HS.out.1,HX.out,Int.add_zero],by rw[HS.out.2,HX.out,Int.add_zero];exact hown',hbel'⟩
    case measure=>simp[intOf];omega
  ·go_wp2
   go_ret
   obtain rfl:k=n:=by omega
   exact⟨_,rfl,hown,hbel⟩
theorem VZ (D:LI) (h:D.length=40) (y:Int):(D.take 17).set 16 y=D.take 16++[y]:=by
 rw[tQ (by omega),List.set_append_right _ _ (by rw[List.length_take];omega),List.length_take,Nat.min_eq_left (by omega)]
 rfl
theorem xY (l:LI) (j:Nat) (h:j<l.length):l.take (j+1)=l.take j++[l.getD j 0]:=by
 rw[tQ h]
 simp[h]
theorem fD:∀l r,(mM l r).length=max l.length r.length
 | l,[]=>by simp[mM]
 | [],y::r=>by simp[mM,fD [] r]
 | x::l,y::r=>by simp[mM,fD l r]
theorem oV:∀(l r:LI) (i:Nat),(mM l r).getD i 0=l.getD i 0+5*r.getD i 0
 | l,[],i=>by simp[mM]
 | [],y::r,0=>by simp[mM]
 | [],y::r,i+1=>by
   have:=oV [] r i
   simpa[mM]using this
 | x::l,y::r,0=>by simp[mM]
 | x::l,y::r,i+1=>by
   have:=oV l r i
   simpa[mM]using this
theorem P9 {l r:LI} (hl:l.length=r.length) (h:∀i,i<l.length→l.getD i 0=r.getD i 0):l=r:=by
 apply List.ext_getElem hl
 intro i h1 h2
 have:=h i h1
 simpa[h1,h2]using this
theorem qQ (l:LI) (i j:Nat) (y:Int) (hj:j<l.length):(l.set j y).getD i 0=if i=j then y else l.getD i 0:=by
 simp only[List.getD_eq_getElem?_getD,List.getElem?_set]
 by_cases h:j=i
 ·subst h;simp[hj]
 ·simp[h,Ne.symm h]
theorem vU (l r:LI) (i:Nat):(l++r).getD i 0=if i<l.length then l.getD i 0 else r.getD (i - l.length) 0:=by
 simp only[List.getD_eq_getElem?_getD,List.getElem?_append]
 split<;>rfl
theorem abO (l r:LI) (j:Nat) (hj:j<l.length) (hr:j<r.length):mM l (r.take (j+1))=(mM l (r.take j)).set j (l.getD j 0+5*r.getD j 0):=by
 have hlen:(mM l (r.take j)).length=l.length:=by rw[fD,List.length_take];omega
 apply P9
 ·rw[lJ,fD,fD,List.length_take,List.length_take];omega
 ·intro i hi
  rw[qQ _ _ _ _ (by omega),oV,oV,cM,cM]
  by_cases h1:i=j
  ·subst h1;simp
  ·rw[if_neg h1]
   by_cases h2:i<j
   ·rw[if_pos h2,if_pos (by omega)]
   ·rw[if_neg h2,if_neg (by omega)]
theorem YQ (l r:LI) (j:Nat) (hj:l.length≤j) (hr:j<r.length):mM l (r.take (j+1))=mM l (r.take j)++[5*r.getD j 0]:=by
 have hlen:(mM l (r.take j)).length=j:=by rw[fD,List.length_take];omega
 apply P9
 ·rw[lQ,fD,hlen,List.length_take];simp;omega
 ·intro i hi
  rw[fD,List.length_take]at hi
  rw[vU,hlen,oV,cM]
  by_cases h2:i<j
  ·rw[if_pos h2,if_pos (by omega),oV,cM,if_pos h2]
  ·obtain rfl:i=j:=by omega
   rw[if_neg h2,if_pos (by omega)]
   simp[List.getD_eq_getElem?_getD,List.getElem?_eq_none hj]
theorem EF (D:LI) (h:D.length=40):(tK D).length=24:=by
 unfold tK
 rw[fD,sM,lQ,List.length_take,List.length_drop]
 simp;omega
theorem YG (D:LI) (hb:aC D) (i:Nat):0≤(rI D).getD i 0∧(rI D).getD i 0≤255:=by
 by_cases h:i<D.length
 ·rw[JL D i h]
  have h1:=hb i
  have h2:=hb (i+1)
  omega
 ·simp[List.getD_eq_getElem?_getD,List.getElem?_eq_none (show(rI D).length≤i by rw[sM];omega)]
theorem acS (D:LI) (hb:aC D) (i:Nat):0≤(D.take 16++[D.getD 16 0%4]).getD i 0∧(D.take 16++[D.getD 16 0%4]).getD i 0≤255:=by
 rw[vU]
 have h1:=dB hb 16 i
 have h16:=hb 16
 split
 ·exact h1
 ·generalize i - (D.take 16).length=q
  match q with
  | 0=>simp;omega
  | q+1=>simp
theorem ED (D:LI) (hb:aC D):jV (tK D):=by
 intro i
 unfold tK
 rw[oV]
 have h1:=acS D hb i
 have h2:=YG (D.drop 16) (cE hb 16) i
 omega
def fG (d:LI):Nat→LI
 | 0=>gM d 40
 | k+1=>gM (tK (fG d k)) 40
theorem lL (d:LI):∀k,(fG d k).length=40
 | 0=>jB _ _
 | _+1=>jB _ _
theorem mV (d:LI):∀k,aC (fG d k)
 | 0=>pA _ _
 | _+1=>pA _ _
def pU (D:LI):LI:=gM (D.set 0 (D.getD 0 0+5)) 40
def rA (d:LI):LI:=if 4≤(pU (fG d 4)).getD 16 0 then((pU (fG d 4)).set 16 ((pU (fG d 4)).getD 16 0 - 4)).take 17 else(fG d 4).take 17
theorem JA {D:LI} (hb:aC D) (hl:D.length=40):jV (D.set 0 (D.getD 0 0+5)):=by
 intro i
 rw[qQ _ _ _ _ (by omega)]
 have h0:=hb 0
 have hi:=hb i
 split<;>omega
theorem MK (D:LI):aC (pU D):=pA _ _
theorem zO (D:LI):(pU D).length=40:=jB _ _
theorem rB (l:LI) (n:Nat) (h:n≤l.length):aU l=aU (l.take n)+256^n*aU (l.drop n):=by
 have:=fH (l.take n) (l.drop n)
 rw[List.take_append_drop,List.length_take,Nat.min_eq_left h]at this
 exact this
theorem EU (l:LI) (h:aC l):0≤aU l:=(oP l h).1
theorem wI (l:LI) (j:Nat) (y:Int) (h:j<l.length):aU (l.set j y)=aU l+256^j*(y - l.getD j 0):=by
 rw[rB l j (by omega),rB (l.set j y) j (by rw[lJ];omega)]
 rw[List.take_set_of_le (nQ j),List.drop_set,if_neg (by omega),Nat.sub_self]
 have hd:l.drop j=l.getD j 0::l.drop (j+1):=by
  rw[List.drop_eq_getElem_cons h]
  simp[h]
 rw[hd]
 simp only[sY,aU,Int.mul_add,Int.mul_sub]
 omega
theorem XV:(256:Int)^16=340282366920938463463374607431768211456:=by decide
theorem ajQ:(256:Int)^17=87112285931760246646623899502532662132736:=by decide
theorem RP:(256:Int)^40=2135987035920910082395021706169552114602704522356652769947041607822219725780640550022962086936576:=by decide
theorem xR (D:LI) (hb:aC D) (hl:D.length=40):aU (gM (tK D) 40)=aU D%1361129467683753853853498429727072845824+5*(aU D / 1361129467683753853853498429727072845824):=by
 have hin:=oP D hb
 rw[hl,RP]at hin
 have hf:=T9 D hb (by omega)
 rw[zD (tK D) (ED D hb) 40 (by rw[EF D hl];decide) (by rw[hf];omega) (by rw[hf,RP];omega),hf]
theorem alD (d:LI) (hd:jV d) (hl:d.length≤40) (h0:0≤aU d) (h:aU d<256^40):
 ∃q,aU (fG d 4)=aU d - gV*q∧0≤aU (fG d 4)∧aU (fG d 4)<1361129467683753853853498429727072845824:=by
 have e0:aU (fG d 0)=aU d:=zD d hd 40 hl h0 h
 have e1:=xR (fG d 0) (mV d 0) (lL d 0)
 have e2:=xR (fG d 1) (mV d 1) (lL d 1)
 have e3:=xR (fG d 2) (mV d 2) (lL d 2)
 have e4:=xR (fG d 3) (mV d 3) (lL d 3)
 rw[show gM (tK (fG d 0)) 40=fG d 1 from rfl]at e1
 rw[show gM (tK (fG d 1)) 40=fG d 2 from rfl]at e2
 rw[show gM (tK (fG d 2)) 40=fG d 3 from rfl]at e3
 rw[show gM (tK (fG d 3)) 40=fG d 4 from rfl]at e4
 rw[RP]at h
 rw[e0]at e1
 generalize aU (fG d 1)=n1 at*
 generalize aU (fG d 2)=n2 at*
 generalize aU (fG d 3)=n3 at*
 generalize aU (fG d 4)=n4 at*
 generalize aU d=n0 at*
 refine⟨n0 / 1361129467683753853853498429727072845824+n1 / 1361129467683753853853498429727072845824+n2 / 1361129467683753853853498429727072845824+n3 / 1361129467683753853853498429727072845824,?_⟩
 unfold gV
 omega
theorem adL (F:LI) (hb:aC F) (hl:F.length=40) (N:Int) (hN:aU F=N) (h:N<87112285931760246646623899502532662132736):aU (F.take 17)=N∧F.getD 16 0=N / 340282366920938463463374607431768211456:=by
 have h17:=rB F 17 (by omega)
 have hb17:=EU _ (cE hb 17)
 have ht:=EU _ (dB hb 17)
 rw[ajQ,hN]at h17
 have h16:=rB F 16 (by omega)
 have hd:F.drop 16=F.getD 16 0::F.drop 17:=by
  rw[List.drop_eq_getElem_cons (by omega)]
  simp[show 16<F.length by omega]
 have ht16:=oP (F.take 16) (dB hb 16)
 rw[List.length_take,hl,Nat.min_eq_left (by omega),XV]at ht16
 rw[hd,XV,hN]at h16
 simp only[aU]at h16
 omega
theorem MH (d:LI) (hd:jV d) (hl:d.length≤40) (h0:0≤aU d) (h:aU d<256^40):
 aU (rA d)=aU d%gV∧aC (rA d)∧(rA d).length=17:=by
 obtain⟨q,hq,hq0,hq1⟩:=alD d hd hl h0 h
 have hDb:=mV d 4
 have hDl:=lL d 4
 unfold rA
 generalize fG d 4=D at*
 have hset:aU (D.set 0 (D.getD 0 0+5))=aU D+5:=by
  rw[wI D 0 _ (by omega)]
  simp
  omega
 have hF:aU (pU D)=aU D+5:=by
  unfold pU
  rw[zD _ (JA hDb hDl) 40 (by rw[lJ];omega) (by rw[hset];omega) (by rw[hset,RP];omega),hset]
 have hFb:=MK D
 have hFl:=zO D
 generalize pU D=F at*
 have tD:=adL D hDb hDl (aU D) rfl (by omega)
 have tF:=adL F hFb hFl (aU D+5) hF (by omega)
 have b16:=hFb 16
 by_cases h4:4≤F.getD 16 0
 ·rw[if_pos h4]
  have hlen:((F.set 16 (F.getD 16 0 - 4)).take 17).length=17:=by rw[List.length_take,lJ,hFl];rfl
  refine⟨?_,?_,hlen⟩
  ·have e:(F.set 16 (F.getD 16 0 - 4)).take 17=(F.take 17).set 16 (F.getD 16 0 - 4):=by rw[List.take_set]
   have hg:(F.take 17).getD 16 0=F.getD 16 0:=by rw[cM,if_pos (by decide)]
   rw[e,wI _ _ _ (by rw[List.length_take,hFl];decide),tF.1,hg,XV]
   unfold gV at*
   omega
  ·intro i
   rw[cM]
   split
   ·rw[qQ _ _ _ _ (by omega)]
    have hi:=hFb i
    split<;>omega
   ·omega
 ·rw[if_neg h4]
  refine⟨?_,dB hDb 17,by rw[List.length_take,hDl];rfl⟩
  rw[tD.1]
  unfold gV at*
  omega
theorem DG:prog.follows .mixedOrders=true:=by kernel_rfl
theorem AH (d:LI) (m n:Nat) (z:Int) (hz:z=n) (hm:d.length=m) (hd:jV d) (hn:n≤40) (a:Option Addr) (cap:Nat) (w:World) (hr:Rd w a d) (hm2:m≤1000):
 Calls prog 93 #[.slice a m cap,.int .i64 z] w fun e w'=>∃v,e=.returned v∧bM .i64 3 w.heap.size w' v (gM d n)∧Below w.heap.size w w':=by
 subst hz
 exact Y7 d m n hm hd hn a cap w hr hm2
theorem bM.held {k:IntKind} {e:TypeId} {base:Nat} {w:World} {v:Value} {l:LI} (h:bM k e base w v l) (n:Nat) (hn:l.length=n) (h0:0<n):
 ∃g cap,v=.slice (some ⟨g,0,none⟩) n cap∧base≤g∧g<w.heap.size∧n≤cap∧cap≤9223372036854775807∧(∀i,i<n→w.cell? ⟨g,i,none⟩=some (.int k (l.getD i 0)))∧(∀i,w.frozen? ⟨g,i,none⟩=false):=by
 subst hn
 rcases h.at with ⟨_,hl⟩|h
 ·rw[hl]at h0;simp at h0
 ·exact h
theorem bM.rd {base:Nat} {w:World} {g n cap:Nat} {l:LI} (h:bM .i64 3 base w (.slice (some ⟨g,0,none⟩) n cap) l):n=l.length∧Rd w (some ⟨g,0,none⟩) l:=by
 rcases h.at with ⟨hv,_⟩|⟨g',cap',hv,_,_,_,_,hc,_⟩
 ·cases hv
 ·simp at hv
  obtain⟨rfl,rfl,rfl⟩:=hv
  exact⟨rfl,fun i hi=>⟨g,0,rfl,by rw[Nat.zero_add];exact hc i hi⟩⟩
theorem XK (d:LI) (m:Nat) (hm:d.length=m) (hd:jV d) (a:Option Addr) (cap:Nat) (w:World) (hr:Rd w a d) (hm2:m≤40):
 Calls prog 92 #[.slice a m cap] w fun e w'=>∃v,e=.returned v∧bM .i64 3 w.heap.size w' v (rA d)∧Below w.heap.size w w':=by
 go_enter func92,ntmps92
 go_wp2_with fail
 refine(AH d m 40 40 rfl hm hd (by decide) a cap w hr (by omega)).mono ?_
 rintro e w1 ⟨v1,rfl,hown1,hbel1⟩
 clear hr hd
 go_wp2
 go_loopw [0,3] (fun v i wr=>∃k:Nat,k≤4∧i=.int .i64 k∧bM .i64 3 w.heap.size wr v (fG d k)∧Below w.heap.size w wr) (fun _ i _=>4 - (intOf i).toNat)
 case atStart=>exact⟨0,by omega,rfl,hown1,hbel1⟩
 case round=>
  obtain⟨k,hk,rfl,hown,hbel⟩:=hrel
  have hDl:=lL d k
  have hDb:=mV d k
  have modB:∀i,0≤(fG d k).getD i 0∧(fG d k).getD i 0≤255:=hDb
  have HF:Hid (fG d (k+1)=gM (tK (fG d k)) 40):=rfl
  have hD4:∀D,D=fG d k→k=4→rA d=if 4≤(pU D).getD 16 0 then((pU D).set 16 ((pU D).getD 16 0 - 4)).take 17 else D.take 17:=by
   intro D hD h4
   subst h4
   rw[hD]
   rfl
  have HMD:Hid _:=hD4 _ rfl
  clear hD4
  generalize fG d k=D at*
  rcases hown.at with ⟨hv,hl⟩|⟨g,cap,rfl,hg,hgs,hcap,hcap2,hc,hf⟩
  ·rw[hl]at hDl;simp at hDl
  have HDL:Hid (D.length=40):=hDl
  rw[hDl]at hcap hc hown⊢
  clear hDl
  by_cases hlt:k<4
  ·have c16:=hc 16 (by omega)
   have b16:=hDb 16
   obtain⟨b0,b1⟩:=b16
   have HC:Hid _:=hc
   have HO:Hid (bM .i64 3 wr.heap.size (wr.alloc (.cells #[] 3)) (.slice (some ⟨wr.heap.size,0,none⟩) 0 0) []):=bM.nil wr (nQ _)
   have HB:Hid (Below wr.heap.size wr (wr.alloc (.cells #[] 3))):=(Below.refl _ _).alloc (nQ _) _
   have HN:Hid (∀j,j<17→(wr.alloc (.cells #[] 3)).cell? ⟨g,0+j,none⟩=some (.int .i64 ((D.take 17).getD j 0))):=by
    intro j hj
    rw[World.cell?_alloc_past _ _ _ hgs,Nat.zero_add,HC.out j (by omega),cM,if_pos hj]
   have HL:Hid ((D.take 17).length=17):=by show _=_;rw[List.length_take,HDL.out];rfl
   generalize hx16:D.getD 16 0=x16 at*
   have HX16:Hid (D.getD 16 0=x16):=hx16
   clear hx16
   clear hc hDb
   go_wp2_with(at_builtin;refine bU .i64 180 3 8 underlying180 qU (by decide) rfl (.tmp 16) (.tmp 18) rfl wr.heap.size wr _ _ [] g 0 17 _ (D.take 17) HL.out rfl rfl HO.out HB.out (by simp) (by simp) HN.out ?_;intro v2 w2 hown2 hbel2 _ _;obtain⟨g2,cap2,rfl,q1,q2,q3,q4,q5,q6⟩:=hown2.held 17 (by exact HL.out) (by decide);have c16b:=(hbel2.cell (p:=⟨g,16,none⟩) hgs).trans c16;have l16:=q5 16 (by decide);have f16:=q6 16;have HQ:Hid (∀i,i<17→w2.cell? ⟨g2,i,none⟩=some (.int .i64 (([]++D.take 17).getD i 0))):=q5;have HF2:Hid (∀i,w2.frozen? ⟨g2,i,none⟩=false):=q6;clear q5 q6)
   have HLs:Hid (([]++D.take 17).set 16 (x16%4)=D.take 16++[x16%4]):=VZ D HDL.out _
   have hlow:bM .i64 3 wr.heap.size (w2.setCell ⟨g2,16,none⟩ (.int .i64 (x16%4))) (.slice (some ⟨g2,0,none⟩) 17 cap2) (D.take 16++[x16%4]):=by
    have:=hown2.set 16 (x16%4)
    rw[HLs.out]at this
    exact this
   have hgr3:=FU w2 g2 16 (.int .i64 (x16%4))
   have hb3:Below wr.heap.size wr (w2.setCell ⟨g2,16,none⟩ (.int .i64 (x16%4))):=hbel2.setCell (by exact q1) _
   have hcD:∀i,i<40→(w2.setCell ⟨g2,16,none⟩ (.int .i64 (x16%4))).cell? ⟨g,i,none⟩=some (.int .i64 (D.getD i 0)):=fun i hi=>(hb3.cell (p:=⟨g,i,none⟩) hgs).trans (HC.out i hi)
   have hs3:(w2.setCell ⟨g2,16,none⟩ (.int .i64 (x16%4))).heap.size=w2.heap.size:=by simp
   have hs2:=hbel2.size
   generalize w2.setCell ⟨g2,16,none⟩ (.int .i64 (x16%4))=W3 at*
   have HcD:Hid (∀i,i<40→W3.cell? ⟨g,i,none⟩=some (.int .i64 (D.getD i 0))):=hcD
   have Hlow:Hid (bM .i64 3 wr.heap.size W3 (.slice (some ⟨g2,0,none⟩) 17 cap2) (D.take 16++[x16%4])):=hlow
   have HS3:Hid (W3.heap.size=w2.heap.size):=hs3
   have hq2:g2<W3.heap.size:=by omega
   have hgW:g<W3.heap.size:=by omega
   rw[←hs3]
   clear hcD hlow hs3 c16b l16 f16 HQ HF2 hgr3 hown2 hbel2 c16 HN HO HB
   have HSH:Hid (∀j,j<24→(rI (D.drop 16)).getD j 0=D.getD (16+j) 0 / 4+(D.getD (16+j+1) 0%4)*64):=by
    intro j hj
    rw[JL _ _ (by rw[List.length_drop,HDL.out];omega)]
    simp only[List.getD_eq_getElem?_getD,List.getElem?_drop]
    rfl
   have HSL:Hid ((rI (D.drop 16)).length=24):=by
    have h:=sM (D.drop 16)
    rw[List.length_drop,HDL.out]at h
    exact h
   have HDB:Hid (∀i,0≤D.getD i 0∧D.getD i 0≤255):=modB
   have HD40:Hid (D.getD 40 0=0):=by
    have hle:D.length≤40:=Nat.le_of_eq HDL.out
    show D.getD 40 0=0
    rw[List.getD_eq_getElem?_getD,List.getElem?_eq_none hle]
    rfl
   clear modB
   go_loopw [5,6] (fun v i wx=>∃j:Nat,j≤24∧i=.int .i64 ((16+j:Nat):Int)∧bM .i64 3 W3.heap.size wx v ((rI (D.drop 16)).take j)∧Below W3.heap.size W3 wx) (fun _ i _=>40 - (intOf i).toNat)
   case atStart=>exact⟨0,by omega,rfl,bM.nil W3 (nQ _),(Below.refl _ _).alloc (nQ _) _⟩
   case round=>
    obtain⟨j,hj,rfl,hownH,hbelH⟩:=hrel
    have hsx:=hbelH.size
    by_cases hj24:j<24
    ·have cj:=(hbelH.cell (p:=⟨g,16+j,none⟩) hgW).trans (HcD.out (16+j) (by omega))
     have bj:=HDB.out (16+j)
     have bj1:=HDB.out (16+j+1)
     have hval:=HSH.out j hj24
     have HTP:Hid ((rI (D.drop 16)).take (j+1)=(rI (D.drop 16)).take j++[D.getD (16+j) 0 / 4+(D.getD (16+j+1) 0%4)*64]):=by
      show _=_
      rw[xY _ _ (by rw[HSL.out];exact hj24),hval]
     have HTL:Hid (((rI (D.drop 16)).take j).length≤100000000):=by show _≤_;rw[List.length_take];omega
     obtain⟨p0,p1⟩:=bj
     obtain⟨p2,p3⟩:=bj1
     clear hval
     by_cases hlast:16+j+1<40
     ·have cj1:=(hbelH.cell (p:=⟨g,16+j+1,none⟩) hgW).trans (HcD.out (16+j+1) (by omega))
      generalize D.getD (16+j) 0=x at*
      generalize D.getD (16+j+1) 0=y at*
      go_wp2_with(at_builtin;refine cK .i64 180 3 8 underlying180 qU (by decide) rfl (.tmp 44) (.tmp 53) rfl W3.heap.size W3 _ _ ((rI (D.drop 16)).take j) _ rfl rfl hownH hbelH hsx HTL.out ?_;intro v' w' hown' hbel' _ _)
      go_roundw
      case rel=>exact⟨j+1,by omega,by go_num,by rw[HTP.out];exact hown',hbel'⟩
      case measure=>simp[intOf];omega
     ·obtain rfl:j=23:=by omega
      have hy:D.getD (16+23+1) 0=0:=HD40.out
      rw[hy]at HTP p2 p3
      generalize D.getD (16+23) 0=x at*
      go_wp2_with(at_builtin;refine cK .i64 180 3 8 underlying180 qU (by decide) rfl (.tmp 44) (.tmp 53) rfl W3.heap.size W3 _ _ ((rI (D.drop 16)).take 23) _ rfl rfl hownH hbelH hsx HTL.out ?_;intro v' w' hown' hbel' _ _)
      go_roundw
      case rel=>exact⟨24,by omega,by go_num,by rw[HTP.out,show x / 4+0%4*64=x / 4 by omega];exact hown',hbel'⟩
      case measure=>simp[intOf]
    ·obtain rfl:j=24:=by omega
     rw[show((16+24:Nat):Int)=40 from rfl]
     rw[List.take_of_length_le (by rw[HSL.out];exact nQ _)]at hownH
     obtain⟨g5,cap5,rfl,t1,t2,t3,t4,t5,t6⟩:=hownH.held 24 HSL.out (by decide)
     have HH5:Hid (∀i,i<24→wr.cell? ⟨g5,i,none⟩=some (.int .i64 ((rI (D.drop 16)).getD i 0))):=t5
     have hlow4:bM .i64 3 w.heap.size wr (.slice (some ⟨g2,0,none⟩) 17 cap2) (D.take 16++[x16%4]):=(Hlow.out.later hbelH).mono (by have:=hbel.size;omega)
     have hbel4:Below w.heap.size w wr:=(hbel.trans (hb3.mono hbel.size)).trans (hbelH.mono (by have:=hbel.size;omega))
     have HHin:Hid _:=YG (D.drop 16) (cE HDB.out 16)
     have HLin:Hid (∀i,0≤(D.take 16++[x16%4]).getD i 0∧(D.take 16++[x16%4]).getD i 0≤255):=by
      rw[←HX16.out]
      exact acS D HDB.out
     have HLL:Hid ((D.take 16++[x16%4]).length=17):=by
      show _=_
      rw[lQ,List.length_take,HDL.out]
      rfl
     have HFD:Hid (tK D=mM (D.take 16++[x16%4]) (rI (D.drop 16))):=by rw[←HX16.out];rfl
     have HFg:Hid (jV (tK D)∧(tK D).length=24):=⟨ED D HDB.out,EF D HDL.out⟩
     have HG5:Hid (g2≠g5):=by show g2≠g5;omega
     generalize rI (D.drop 16)=H at*
     generalize D.take 16++[x16%4]=L at*
     clear t5 t6 hownH hbelH
     go_wp2
     go_loopw [4,57] (fun v i wy=>∃j:Nat,j≤24∧i=.int .i64 j∧bM .i64 3 w.heap.size wy v (mM L (H.take j))∧v.ownBlock≠some g5∧g5<wy.heap.size∧(∀i,i<24→wy.cell? ⟨g5,i,none⟩=some (.int .i64 (H.getD i 0)))∧Below w.heap.size w wy) (fun _ i _=>24 - (intOf i).toNat)
     case atStart=>
      refine⟨0,by omega,rfl,?_,?_,t2,HH5.out,hbel4⟩
      ·have:mM L (H.take 0)=L:=by simp[mM]
       rw[this]
       exact hlow4
      ·intro h
       simp[Value.ownBlock]at h
       exact HG5.out h
     case round=>
      obtain⟨j,hj,rfl,hownL,hneL,hg5,hcH,hbelL⟩:=hrel
      have hsy:=hbelL.size
      by_cases hj24:j<24
      ·have cH:=hcH j hj24
       have bH:=HHin.out j
       have bL:=HLin.out j
       obtain⟨p0,p1⟩:=bH
       obtain⟨p2,p3⟩:=bL
       have HcH:Hid _:=hcH
       by_cases h17:j<17
       ·have hlen:(mM L (H.take j)).length=17:=by rw[fD,HLL.out,List.length_take];omega
        obtain⟨g4,cap4,rfl,o1,o2,o3,o4,o5,o6⟩:=hownL.held 17 hlen (by decide)
        have cL:=o5 j h17
        have fL:=o6 j
        rw[oV,cM,if_neg (by omega),Int.mul_zero,Int.add_zero]at cL
        have HST:Hid _:=abO L H j (by rw[HLL.out];exact h17) (by rw[HSL.out];exact hj24)
        have hne4:g4≠g5:=fun h=>hneL (by rw[h];rfl)
        generalize H.getD j 0=x at*
        generalize L.getD j 0=y at*
        clear o5 o6 hlen hcH
        go_wp2
        refine wRh 11 DG (by kernel_rfl) ?_
        simp only[tU,tJ,dJ,dY]
        repeat(go_big_quiet_step (fail))
        refine wqN ?_
        go_wp2
        go_roundw
        case rel=>
         refine⟨j+1,by omega,by go_num,?_,hneL,by simpa using hg5,?_,?_⟩
         ·rw[HST.out]
          exact(bM.set (w:=wr.drew) hownL j (y+5*x))
         ·intro i hi
          show(wr.setCell ⟨g4,j,none⟩ (.int .i64 (y+5*x))).cell? _=_
          rw[World.cell?_setCell_other _ _ _ _ (by intro h;injection h with h1 h2 h3;exact hne4 h1)]
          exact HcH.out i hi
         ·exact hbelL.drew.setCell (by exact o1) _
        case measure=>simp[intOf];omega
       ·have hlen:(mM L (H.take j)).length=j:=by rw[fD,HLL.out,List.length_take,HSL.out];omega
        have HST:Hid _:=YQ L H j (by rw[HLL.out];omega) (by rw[HSL.out];exact hj24)
        have HLN:Hid ((mM L (H.take j)).length≤100000000):=by show _≤_;omega
        generalize H.getD j 0=x at*
        clear hlen hcH
        go_wp2_with(at_builtin;refine cK .i64 180 3 8 underlying180 qU (by decide) rfl (.tmp 73) (.tmp 79) rfl w.heap.size w _ _ (mM L (H.take j)) _ rfl rfl hownL hbelL hsy HLN.out ?_;intro v' w' hown' hbel' hgr' hbl')
        go_roundw
        case rel=>
         refine⟨j+1,by omega,by go_num,by rw[HST.out];exact hown',?_,?_,?_,hbel'⟩
         ·rcases hbl' with h|h
          ·rw[h];exact hneL
          ·rw[h];intro h';simp at h';omega
         ·have:=hgr'.size;omega
         ·intro i hi
          rw[←HcH.out i hi]
          exact World.cell?_of_block (hgr'.block g5 hg5 (fun h=>hneL h.symm))
        case measure=>simp[intOf];omega
      ·obtain rfl:j=24:=by omega
       rw[List.take_of_length_le (by rw[HSL.out];exact nQ _),←HFD.out]at hownL
       obtain⟨g4,cap4,rfl,o1,o2,o3,o4,o5,o6⟩:=hownL.held 24 HFg.out.2 (by decide)
       clear o5 o6 hcH
       go_wp2_with fail
       refine(AH (tK D) 24 40 40 rfl HFg.out.2 HFg.out.1 (by decide) _ cap4 wr hownL.rd.2 (by decide)).mono ?_
       rintro e w9 ⟨v9,rfl,hown9,hbel9⟩
       go_wp2
       go_roundw
       case rel=>exact⟨k+1,by omega,by go_num,by rw[HF.out];exact hown9.mono hsy,hbelL.trans (hbel9.mono hsy)⟩
       case measure=>show 4 - ((k:Int)+1).toNat<4 - (k:Int).toNat;omega
  ·obtain rfl:k=4:=by omega
   have HM:Hid (rA d=if 4≤(pU D).getD 16 0 then((pU D).set 16 ((pU D).getD 16 0 - 4)).take 17 else D.take 17):=HMD.out rfl
   have c0:=hc 0 (by omega)
   have HC:Hid _:=hc
   have HDB:Hid (aC D):=hDb
   have HO:Hid (bM .i64 3 wr.heap.size (wr.alloc (.cells #[] 3)) (.slice (some ⟨wr.heap.size,0,none⟩) 0 0) []):=bM.nil wr (nQ _)
   have HB:Hid (Below wr.heap.size wr (wr.alloc (.cells #[] 3))):=(Below.refl _ _).alloc (nQ _) _
   have HN:Hid (∀j,j<40→(wr.alloc (.cells #[] 3)).cell? ⟨g,0+j,none⟩=some (.int .i64 (D.getD j 0))):=by
    intro j hj
    rw[World.cell?_alloc_past _ _ _ hgs,Nat.zero_add,HC.out j hj]
   have hsw:=hbel.size
   have bD:=hDb 0
   obtain⟨b0,b1⟩:=bD
   clear hc hDb modB hown1 hbel1
   obtain⟨z,hz⟩:∃z,z=D.getD 0 0:=⟨_,rfl⟩
   have HZ:Hid (z=D.getD 0 0):=hz
   rw[←hz]at b0 b1 c0
   clear hz
   go_wp2_with(at_builtin;refine bU .i64 180 3 8 underlying180 qU (by decide) rfl (.tmp 84) (.tmp 85) rfl wr.heap.size wr _ _ [] g 0 40 _ D HDL.out rfl rfl HO.out HB.out (by simp) (by simp) HN.out ?_;intro v2 w2 hown2 hbel2 _ _;rw[nA]at hown2;obtain⟨g2,cap2,rfl,q1,q2,q3,q4,q5,q6⟩:=hown2.held 40 (by exact HDL.out) (by decide);have l0:=q5 0 (by decide);rw[←HZ.out]at l0;have f0:=q6 0;clear q5 q6)
   rw[HZ.out]
   have hbW:Below wr.heap.size wr (w2.setCell ⟨g2,0,none⟩ (.int .i64 (D.getD 0 0+5))):=hbel2.setCell (by exact q1) _
   refine(AH (D.set 0 (D.getD 0 0+5)) 40 40 40 rfl (by rw[lJ];exact HDL.out) (JA HDB.out HDL.out) (by decide) _ cap2 _ (hown2.set 0 (D.getD 0 0+5)).rd.2 (by decide)).mono ?_
   rintro e w3 ⟨v3,rfl,hown3,hbel3⟩
   have hbW3:Below wr.heap.size wr w3:=hbW.trans (hbel3.mono (by have:=hbW.size;omega))
   have hownD:bM .i64 3 w.heap.size w3 (.slice (some ⟨g,0,none⟩) 40 cap) D:=hown.later hbW3
   have hbw3:Below w.heap.size w w3:=hbel.trans (hbW3.mono hsw)
   have hsz3:w.heap.size≤(w2.setCell ⟨g2,0,none⟩ (.int .i64 (D.getD 0 0+5))).heap.size:=by have:=hbW.size;omega
   have hown3':bM .i64 3 w.heap.size w3 v3 (pU D):=hown3.mono hsz3
   obtain⟨g3,cap3,rfl,s1,s2,s3,s4,s5,s6⟩:=hown3'.held 40 (zO D) (by decide)
   have l16:=s5 16 (by decide)
   have f16:=s6 16
   have b16:=MK D 16
   obtain⟨b2,b3⟩:=b16
   have hoff:=zO D
   generalize pU D=F at*
   by_cases h4:4≤F.getD 16 0
   ·generalize hx:F.getD 16 0=x at*
    clear s5 s6 hx
    go_wp2
    go_ret
    refine⟨_,rfl,?_,?_⟩
    ·rw[HM.out,if_pos h4]
     exact(hown3'.set 16 (x - 4)).take 17 (by decide)
    ·exact hbw3.setCell (by exact s1) _
   ·generalize hx:F.getD 16 0=x at*
    clear s5 s6 hx
    go_wp2
    go_ret
    refine⟨_,rfl,?_,hbw3⟩
    rw[HM.out,if_neg (by omega)]
    exact hownD.take 17 (by decide)
def fI (l ys:LI):Nat→LI
 | 0=>l
 | n+1=>(fI l ys n).set n ((fI l ys n).getD n 0+ys.getD n 0)
theorem kV (l ys:LI):∀n,(fI l ys n).length=l.length
 | 0=>rfl
 | n+1=>by simp[fI,kV l ys n]
theorem oB (l ys:LI):∀n i,n≤i→n≤l.length→(fI l ys n).getD i 0=l.getD i 0
 | 0,i,_,_=>rfl
 | n+1,i,h,hl=>by
   rw[fI,qQ _ _ _ _ (by rw[kV];omega),if_neg (by omega)]
   exact oB l ys n i (by omega) (by omega)
theorem vP (l ys:LI):∀n,n≤l.length→n≤ys.length→aU (fI l ys n)=aU l+aU (ys.take n)
 | 0,_,_=>by simp[fI,aU]
 | n+1,hl,hy=>by
   rw[fI,wI _ _ _ (by rw[kV];omega),vP l ys n (by omega) (by omega),xY ys n (by omega),fH,List.length_take,Nat.min_eq_left (by omega)]
   simp only[aU,Int.mul_zero,Int.add_zero]
   rw[show(fI l ys n).getD n 0+ys.getD n 0 - (fI l ys n).getD n 0=ys.getD n 0 by omega]
   omega
theorem GW {l ys:LI} {B:Int} (hB:0≤B) (hl:∀i,0≤l.getD i 0∧l.getD i 0≤B) (hy:aC ys):∀n,n≤l.length→∀i,0≤(fI l ys n).getD i 0∧(fI l ys n).getD i 0≤B+255
 | 0,_,i=>by have:=hl i;simp only[fI];omega
 | n+1,h,i=>by
   rw[fI,qQ _ _ _ _ (by rw[kV];omega)]
   split
   ·rw[oB l ys n n (nQ _) (by omega)]
    have h1:=hl n
    have h2:=hy n
    omega
   ·exact GW hB hl hy n (by omega) i
def gH (P S R:LI) (i:Nat):Nat→LI
 | 0=>P
 | j+1=>(gH P S R i j).set (i+j) ((gH P S R i j).getD (i+j) 0+S.getD i 0*R.getD j 0)
def cJ (S R:LI):Nat→LI
 | 0=>rQ 40 0
 | i+1=>gH (cJ S R i) S R i 16
theorem lM (P S R:LI) (i:Nat):∀j,(gH P S R i j).length=P.length
 | 0=>rfl
 | j+1=>by simp[gH,lM P S R i j]
theorem dZ (S R:LI):∀i,(cJ S R i).length=40
 | 0=>by simp[cJ]
 | i+1=>by rw[cJ,lM,dZ S R i]
theorem EW (P S R:LI) (i:Nat) (hP:P.length=40):∀j,j≤R.length→i+j≤40→aU (gH P S R i j)=aU P+256^i*S.getD i 0*aU (R.take j)
 | 0,_,_=>by simp[gH,aU]
 | j+1,h,hij=>by
   rw[gH,wI _ _ _ (by rw[lM];omega),EW P S R i hP j (by omega) (by omega),xY R j (by omega),fH,List.length_take,Nat.min_eq_left (by omega)]
   simp only[aU,Int.mul_zero,Int.add_zero]
   rw[show(gH P S R i j).getD (i+j) 0+S.getD i 0*R.getD j 0 - (gH P S R i j).getD (i+j) 0=S.getD i 0*R.getD j 0 by omega]
   rw[Int.mul_add,Int.add_assoc,Int.pow_add]
   congr 2
   rw[Int.mul_assoc,Int.mul_assoc,Int.mul_left_comm (256^j)]
theorem wN (S R:LI) (hR:R.length=16):∀i,i≤S.length→i≤24→aU (cJ S R i)=aU (S.take i)*aU R
 | 0,_,_=>by
   simp only[cJ,tJ,aU,Int.zero_mul]
   decide
 | i+1,h,h24=>by
   rw[cJ,EW _ S R i (dZ S R i) 16 (by omega) (by omega),wN S R hR i (by omega) (by omega),xY S i (by omega),fH,List.length_take,Nat.min_eq_left (by omega)]
   rw[show R.take 16=R from List.take_of_length_le (by omega)]
   simp only[aU,Int.mul_zero,Int.add_zero,Int.add_mul]
theorem BL {P S R:LI} {B:Int} (i:Nat) (hP:P.length=40) (h:∀x,0≤P.getD x 0∧P.getD x 0≤B) (hS:∀x,0≤S.getD x 0∧S.getD x 0≤511) (hR:aC R):∀j:Nat,i+j≤40→∀x,0≤(gH P S R i j).getD x 0∧(gH P S R i j).getD x 0≤B+130305*j
 | 0,_,x=>by have:=h x;simp only[gH];omega
 | j+1,hij,x=>by
   rw[gH,qQ _ _ _ _ (by rw[lM];omega)]
   have ih:=BL i hP h hS hR j (by omega)
   have h1:=ih (i+j)
   have h2:=ih x
   have hs:=hS i
   have hr:=hR j
   have hm0:0≤S.getD i 0*R.getD j 0:=Int.mul_nonneg hs.1 hr.1
   have hm1:S.getD i 0*R.getD j 0≤130305:=by
    have:S.getD i 0*R.getD j 0≤511*R.getD j 0:=Int.mul_le_mul_of_nonneg_right hs.2 hr.1
    omega
   split<;>omega
theorem wM {S R:LI} (hS:∀x,0≤S.getD x 0∧S.getD x 0≤511) (hR:aC R):∀i:Nat,i≤24→∀x,0≤(cJ S R i).getD x 0∧(cJ S R i).getD x 0≤2084880*i
 | 0,_,x=>by
   simp only[cJ,List.getD_eq_getElem?_getD,List.getElem?_replicate]
   split<;>simp
 | i+1,h,x=>by
   have:=BL (B:=2084880*i) i (dZ S R i) (wM hS hR i (by omega)) hS hR 16 (by omega) x
   rw[cJ]
   omega
theorem RD:∀(l r:LI),aC l→aC r→l.length=r.length→aU l=aU r→l=r
 | [],[],_,_,_,_=>rfl
 | [],y::r,_,_,h,_=>by simp at h
 | x::l,[],_,_,h,_=>by simp at h
 | x::l,y::r,hl,hr,h,hn=>by
   have h0:0≤x∧x≤255:=hl 0
   have h1:0≤y∧y≤255:=hr 0
   simp only[aU]at hn
   have hxy:x=y:=by omega
   have:=RD l r (fun i=>by have:=hl (i+1);simpa using this) (fun i=>by have:=hr (i+1);simpa using this) (by simpa using h) (by omega)
   rw[hxy,this]
theorem aaI (N a:Int) (ha:0<a):N%(a*256)=N%a+a*(N / a%256):=by
 have h1:=Int.mul_ediv_add_emod N a
 have h2:=Int.mul_ediv_add_emod (N / a) 256
 have hr:=Int.emod_nonneg N (show a≠0 by omega)
 have hr2:=Int.emod_lt_of_pos N ha
 have hq:=Int.emod_nonneg (N / a) (show(256:Int)≠0 by decide)
 have hq2:=Int.emod_lt_of_pos (N / a) (show(0:Int)<256 by decide)
 have e:N=(N%a+a*(N / a%256))+a*256*(N / a / 256):=by
  have h3:a*(N / a)=a*(256*(N / a / 256))+a*(N / a%256):=by rw[←Int.mul_add,h2]
  rw[←Int.mul_assoc]at h3
  omega
 have hlo:0≤a*(N / a%256):=Int.mul_nonneg (by omega) hq
 have hhi:a*(N / a%256)≤a*255:=Int.mul_le_mul_of_nonneg_left (by omega) (by omega)
 have e2:N%(a*256)=(N%a+a*(N / a%256))%(a*256):=by
  conv=>lhs;rw[e]
  exact Int.add_mul_emod_self_left _ _ _
 rw[e2]
 exact Int.emod_eq_of_lt (by omega) (by omega)
theorem LM (N:Int):∀n:Nat,aU ((List.range n).map fun i=>N / 256^i%256)=N%256^n
 | 0=>by simp[aU,Int.emod_one]
 | n+1=>by
   rw[List.range_succ,List.map_append,fH,LM N n,Int.pow_succ,aaI N (256^n) (zT n)]
   simp[aU]
theorem yP (N:Int):aC (fY N):=by
 intro i
 simp only[fY,List.getD_eq_getElem?_getD,List.getElem?_map]
 by_cases h:i<16
 ·rw[List.getElem?_range h]
  simp only[Option.map_some,Option.getD_some]
  omega
 ·rw[List.getElem?_eq_none (by simp;omega)]
  simp
theorem Y8 (d:LI) (hd:jV d) (hl:16≤d.length):gM d 16=fY (aU d):=by
 refine RD _ _ (pA d 16) (yP _) (by rw[jB];simp[fY]) ?_
 rw[LO d hd 16,zN,fY,LM,rB d 16 hl,Int.add_mul_emod_self_left]
def rX (key:LI) (k:Nat):Int:=if k%4=3 then key.getD k 0%16 else if k%4=0∧0<k then key.getD k 0 - key.getD k 0%4 else key.getD k 0
def jR (key:LI) (n:Nat):LI:=(List.range n).map (rX key)
theorem vA (key:LI) (n:Nat):(jR key n).length=n:=by simp[jR]
theorem VD (key:LI) (n:Nat):jR key (n+1)=jR key n++[rX key n]:=by simp[jR,List.range_succ]
theorem RV {key:LI} (hb:aC key) (n:Nat):aC (jR key n):=by
 intro i
 simp only[jR,List.getD_eq_getElem?_getD,List.getElem?_map]
 by_cases h:i<n
 ·rw[List.getElem?_range h]
  simp only[Option.map_some,Option.getD_some,rX]
  have:=hb i
  split
  ·omega
  ·split<;>omega
 ·rw[List.getElem?_eq_none (by simp;omega)]
  simp
theorem RW (key:LI) (hb:aC key):aU (jR key 16)=mD key:=by
 have b0:=hb 0
 have b1:=hb 1
 have b2:=hb 2
 have b3:=hb 3
 have b4:=hb 4
 have b5:=hb 5
 have b6:=hb 6
 have b7:=hb 7
 have b8:=hb 8
 have b9:=hb 9
 have b10:=hb 10
 have b11:=hb 11
 have b12:=hb 12
 have b13:=hb 13
 have b14:=hb 14
 have b15:=hb 15
 have e:jR key 16=[rX key 0,rX key 1,rX key 2,rX key 3,rX key 4,rX key 5,rX key 6,rX key 7,rX key 8,rX key 9,rX key 10,rX key 11,rX key 12,rX key 13,rX key 14,rX key 15]:=rfl
 rw[e]
 simp only[aU,mD,aF,rX]
 simp[-List.getD_eq_getElem?_getD]
 omega
theorem VJ (key:LI) (hb:aC key) (hl:key.length=32):aU ((key.drop 16).take 16)=afK key:=by
 have h16:(key.drop 16).length=16:=by rw[List.length_drop,hl]
 have hbd:=cE hb 16
 rw[List.take_of_length_le (by omega)]
 unfold afK
 generalize key.drop 16=s at*
 match s,h16 with
 | [z0,z1,z2,z3,z4,z5,z6,z7,z8,z9,z10,z11,z12,z13,z14,z15],_=>
   simp[aU,aF]
   omega
end Go.Proofs.YtmjccemdldidaaaGreatDoor
