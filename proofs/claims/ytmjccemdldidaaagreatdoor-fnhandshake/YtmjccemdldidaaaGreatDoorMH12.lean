import Derived.Test.YtmjccemdldidaaaGreatDoorMH02
namespace Go.Proofs.YtmjccemdldidaaaGreatDoor
open Go.RowKit
open Go.Proofs.Tryz
open Go renaming heap_alloc_new → hAN
open List renaming length_set → lJ
open Nat renaming le_refl → nQ
set_option linter.unusedVariables false
def aM (l:LI) (i:Nat):Int:=l.getD i 0
def gG (x:Int):Prop:=0≤x∧x<4294967296
def xr (a b:Int):Int:=bits .xor .u32 a b
def ad (a b:Int):Int:=(a+b)%4294967296
def rl (n:Nat) (x:Int):Int:=x / 2^(32 - n)+x%2^(32 - n)*2^n
theorem iY (a b:Int):gG (xr a b):=by
 unfold xr gG
 rw[bits.eq_3,IntKind.wrap_u32]
 omega
theorem abN (a b:Int):gG (ad a b):=by
 unfold ad gG
 omega
theorem ajW (x:Int) (h:gG x):gG (rl 16 x)∧bits .or .u32 (x*65536%4294967296) (x / 65536)=rl 16 x:=by
 obtain⟨h0,h1⟩:=h
 have e:rl 16 x=x / 65536+x%65536*65536:=rfl
 rw[e,yT 16 _ _ (by decide) (by omega) (by omega) (by omega) (by omega) (by omega)]
 unfold gG
 omega
theorem alF (x:Int) (h:gG x):gG (rl 12 x)∧bits .or .u32 (x*4096%4294967296) (x / 1048576)=rl 12 x:=by
 obtain⟨h0,h1⟩:=h
 have e:rl 12 x=x / 1048576+x%1048576*4096:=rfl
 rw[e,yT 12 _ _ (by decide) (by omega) (by omega) (by omega) (by omega) (by omega)]
 unfold gG
 omega
theorem rl8 (x:Int) (h:gG x):gG (rl 8 x)∧bits .or .u32 (x*256%4294967296) (x / 16777216)=rl 8 x:=by
 obtain⟨h0,h1⟩:=h
 have e:rl 8 x=x / 16777216+x%16777216*256:=rfl
 rw[e,yT 8 _ _ (by decide) (by omega) (by omega) (by omega) (by omega) (by omega)]
 unfold gG
 omega
theorem rl7 (x:Int) (h:gG x):gG (rl 7 x)∧bits .or .u32 (x*128%4294967296) (x / 33554432)=rl 7 x:=by
 obtain⟨h0,h1⟩:=h
 have e:rl 7 x=x / 33554432+x%33554432*128:=rfl
 rw[e,yT 7 _ _ (by decide) (by omega) (by omega) (by omega) (by omega) (by omega)]
 unfold gG
 omega
def qA (a b c d:Int):Int:=ad (ad a b) (rl 12 (xr b (ad c (rl 16 (xr d (ad a b))))))
def qD (a b c d:Int):Int:=rl 8 (xr (rl 16 (xr d (ad a b))) (qA a b c d))
def qC (a b c d:Int):Int:=ad (ad c (rl 16 (xr d (ad a b)))) (qD a b c d)
def qB (a b c d:Int):Int:=rl 7 (xr (rl 12 (xr b (ad c (rl 16 (xr d (ad a b)))))) (qC a b c d))
theorem ajS (a b c d:Int):gG (qA a b c d):=abN _ _
theorem ajV (a b c d:Int):gG (qD a b c d):=(rl8 _ (iY _ _)).1
theorem ajU (a b c d:Int):gG (qC a b c d):=abN _ _
theorem ajT (a b c d:Int):gG (qB a b c d):=(rl7 _ (iY _ _)).1
def q0 (i:Nat):Nat:=i%4
def q1 (i:Nat):Nat:=if i<4 then i+4 else 4+(i - 4+1)%4
def q2 (i:Nat):Nat:=if i<4 then i+8 else 8+(i - 4+2)%4
def q3 (i:Nat):Nat:=if i<4 then i+12 else 12+(i - 4+3)%4
theorem afF (i:Nat) (h:i<8):q0 i<16∧q1 i<16∧q2 i<16∧q3 i<16:=by
 unfold q0 q1 q2 q3
 refine⟨by omega,?_,?_,?_⟩<;>split<;>omega
theorem afE (i:Nat) (h:i<8):q0 i<4∧4≤q1 i∧q1 i<8∧8≤q2 i∧q2 i<12∧12≤q3 i∧q3 i<16:=by
 unfold q0 q1 q2 q3
 refine⟨by omega,?_,?_,?_,?_,?_,?_⟩<;>split<;>omega
def jZ (l:LI) (a b c d:Nat):LI:=
 (((l.set a (qA (l.getD a 0) (l.getD b 0) (l.getD c 0) (l.getD d 0))).set b (qB (l.getD a 0) (l.getD b 0) (l.getD c 0) (l.getD d 0))).set c (qC (l.getD a 0) (l.getD b 0) (l.getD c 0) (l.getD d 0))).set d (qD (l.getD a 0) (l.getD b 0) (l.getD c 0) (l.getD d 0))
def wD (l:LI):Nat→LI
 | 0=>l
 | k+1=>jZ (wD l k) (q0 k) (q1 k) (q2 k) (q3 k)
def bK (l:LI):Nat→LI
 | 0=>l
 | k+1=>wD (bK l k) 8
def mN:LI:=[1634760805,857760878,2036477234,1797285236,0,0,0,0,0,0,0,0,0,0,0,0]
def jM (key rest:LI):LI:=pF9 (pF9 mN 4 (aF key) 8) 12 (aF rest) 4
theorem MX (key rest:LI):jM key rest=[1634760805,857760878,2036477234,1797285236,aF key 0,aF key 1,aF key 2,aF key 3,aF key 4,aF key 5,aF key 6,aF key 7,aF rest 0,aF rest 1,aF rest 2,aF rest 3]:=rfl
def bJ (l:LI):Prop:=∀i,gG (l.getD i 0)
def put4 (l:LI) (a b c d:Nat) (A B C D:Int):LI:=(((l.set a A).set b B).set c C).set d D
theorem wO (l:LI) (a b c d:Nat) (A B C D:Int):(put4 l a b c d A B C D).length=l.length:=by simp[put4]
theorem OT (l:LI) {a b c d:Nat} (A B C D X:Int) (ab:a≠b) (ac:a≠c) (ad:a≠d):(put4 l a b c d A B C D).set a X=put4 l a b c d X B C D:=by
 simp only[put4]
 rw[List.set_comm _ _ (Ne.symm ad),List.set_comm _ _ (Ne.symm ac),List.set_comm _ _ (Ne.symm ab),List.set_set]
theorem OU (l:LI) {a b c d:Nat} (A B C D X:Int) (bc:b≠c) (bd:b≠d):(put4 l a b c d A B C D).set b X=put4 l a b c d A X C D:=by
 simp only[put4]
 rw[List.set_comm _ _ (Ne.symm bd),List.set_comm _ _ (Ne.symm bc),List.set_set]
theorem OV (l:LI) {a b c d:Nat} (A B C D X:Int) (cd:c≠d):(put4 l a b c d A B C D).set c X=put4 l a b c d A B X D:=by
 simp only[put4]
 rw[List.set_comm _ _ (Ne.symm cd),List.set_set]
theorem OW (l:LI) {a b c d:Nat} (A B C D X:Int):(put4 l a b c d A B C D).set d X=put4 l a b c d A B C X:=by
 simp only[put4,List.set_set]
theorem adD (l:LI) (i:Nat):l.set i (l.getD i 0)=l:=by
 apply List.ext_getElem?
 intro j
 rw[List.getElem?_set]
 split
 ·rename_i h
  subst h
  split
  ·rename_i h
   simp[h]
  ·rename_i h
   rw[List.getElem?_eq_none (by omega)]
 ·rfl
theorem MN (l:LI) (a b c d:Nat):put4 l a b c d (l.getD a 0) (l.getD b 0) (l.getD c 0) (l.getD d 0)=l:=by
 simp only[put4,adD]
theorem XW (l:LI) {a b c d:Nat} (A B C D:Int) (ha:a<l.length) (hb:b<l.length) (hc:c<l.length) (hd:d<l.length) (ab:a≠b) (ac:a≠c) (ad:a≠d) (bc:b≠c) (bd:b≠d) (cd:c≠d):
 (put4 l a b c d A B C D).getD a 0=A∧(put4 l a b c d A B C D).getD b 0=B∧(put4 l a b c d A B C D).getD c 0=C∧(put4 l a b c d A B C D).getD d 0=D:=by
 simp only[put4,List.getD_eq_getElem?_getD,List.getElem?_set,lJ]
 refine⟨?_,?_,?_,?_⟩
 ·rw[if_neg (Ne.symm ad),if_neg (Ne.symm ac),if_neg (Ne.symm ab)];simp[ha]
 ·rw[if_neg (Ne.symm bd),if_neg (Ne.symm bc)];simp[hb]
 ·rw[if_neg (Ne.symm cd)];simp[hc]
 ·simp[hd]
theorem U6 (l:LI) (a b c d:Nat):jZ l a b c d=put4 l a b c d (qA (l.getD a 0) (l.getD b 0) (l.getD c 0) (l.getD d 0)) (qB (l.getD a 0) (l.getD b 0) (l.getD c 0) (l.getD d 0)) (qC (l.getD a 0) (l.getD b 0) (l.getD c 0) (l.getD d 0)) (qD (l.getD a 0) (l.getD b 0) (l.getD c 0) (l.getD d 0)):=rfl
theorem uW (l:LI) (a b c d:Nat):(jZ l a b c d).length=l.length:=by simp[jZ]
theorem sK (l:LI):∀k,(wD l k).length=l.length
 | 0=>rfl
 | k+1=>by rw[wD,uW,sK l k]
theorem gP (l:LI):∀k,(bK l k).length=l.length
 | 0=>rfl
 | k+1=>by rw[bK,sK,gP l k]
theorem gX {l:LI} (h:bJ l) (i:Nat) {x:Int} (hx:gG x):bJ (l.set i x):=by
 intro j
 simp only[List.getD_eq_getElem?_getD,List.getElem?_set]
 split
 ·split
  ·exact hx
  ·exact⟨by decide,by decide⟩
 ·exact h j
theorem jH {zs:LI} (h:aC zs) (i:Nat):gG (aF zs i):=mL h i
theorem DY {key rest:LI} (hk:aC key) (hr:aC rest):bJ (jM key rest):=by
 rw[MX]
 intro i
 match i with
 | 0=>exact(show gG 1634760805 from⟨by decide,by decide⟩)
 | 1=>exact(show gG 857760878 from⟨by decide,by decide⟩)
 | 2=>exact(show gG 2036477234 from⟨by decide,by decide⟩)
 | 3=>exact(show gG 1797285236 from⟨by decide,by decide⟩)
 | 4=>exact jH hk 0
 | 5=>exact jH hk 1
 | 6=>exact jH hk 2
 | 7=>exact jH hk 3
 | 8=>exact jH hk 4
 | 9=>exact jH hk 5
 | 10=>exact jH hk 6
 | 11=>exact jH hk 7
 | 12=>exact jH hr 0
 | 13=>exact jH hr 1
 | 14=>exact jH hr 2
 | 15=>exact jH hr 3
 | i+16=>exact⟨by simp,by simp⟩
theorem acU {l:LI} (h:bJ l) (a b c d:Nat):bJ (jZ l a b c d):=
 gX (gX (gX (gX h _ (ajS _ _ _ _)) _ (ajT _ _ _ _)) _ (ajU _ _ _ _)) _ (ajV _ _ _ _)
theorem GH {l:LI} (h:bJ l):∀k,bJ (wD l k)
 | 0=>h
 | k+1=>acU (GH h k) _ _ _ _
theorem rF {l:LI} (h:bJ l):∀k,bJ (bK l k)
 | 0=>h
 | k+1=>GH (rF h k) 8
def ad3 (a b x:Int):Int:=(a+b+x)%4294967296
theorem agN (a b x:Int):gG (ad3 a b x):=by unfold ad3 gG;omega
theorem alG (x:Int) (h:gG x):gG (rl 20 x)∧bits .or .u32 (x*1048576%4294967296) (x / 4096)=rl 20 x:=by
 obtain⟨h0,h1⟩:=h
 have e:rl 20 x=x / 4096+x%4096*1048576:=rfl
 rw[e,yT 20 _ _ (by decide) (by omega) (by omega) (by omega) (by omega) (by omega)]
 unfold gG
 omega
theorem ajX (x:Int) (h:gG x):gG (rl 24 x)∧bits .or .u32 (x*16777216%4294967296) (x / 256)=rl 24 x:=by
 obtain⟨h0,h1⟩:=h
 have e:rl 24 x=x / 256+x%256*16777216:=rfl
 rw[e,yT 24 _ _ (by decide) (by omega) (by omega) (by omega) (by omega) (by omega)]
 unfold gG
 omega
theorem ajY (x:Int) (h:gG x):gG (rl 25 x)∧bits .or .u32 (x*33554432%4294967296) (x / 128)=rl 25 x:=by
 obtain⟨h0,h1⟩:=h
 have e:rl 25 x=x / 128+x%128*33554432:=rfl
 rw[e,yT 25 _ _ (by decide) (by omega) (by omega) (by omega) (by omega) (by omega)]
 unfold gG
 omega
def gA1 (a b x:Int):Int:=ad3 a b x
def gD1 (a b d x:Int):Int:=rl 16 (xr d (gA1 a b x))
def gC1 (a b c d x:Int):Int:=ad c (gD1 a b d x)
def gB1 (a b c d x:Int):Int:=rl 20 (xr b (gC1 a b c d x))
def gA (a b c d x y:Int):Int:=ad3 (gA1 a b x) (gB1 a b c d x) y
def gD (a b c d x y:Int):Int:=rl 24 (xr (gD1 a b d x) (gA a b c d x y))
def gC (a b c d x y:Int):Int:=ad (gC1 a b c d x) (gD a b c d x y)
def gB (a b c d x y:Int):Int:=rl 25 (xr (gB1 a b c d x) (gC a b c d x y))
theorem ai7 (a b c d x y:Int):gG (gA a b c d x y):=agN _ _ _
theorem ajA (a b c d x y:Int):gG (gD a b c d x y):=(ajX _ (iY _ _)).1
theorem ai9 (a b c d x y:Int):gG (gC a b c d x y):=abN _ _
theorem ai8 (a b c d x y:Int):gG (gB a b c d x y):=(ajY _ (iY _ _)).1
def sS (l:LI) (a b c d:Nat) (x y:Int):LI:=
 put4 l a b c d (gA (aM l a) (aM l b) (aM l c) (aM l d) x y) (gB (aM l a) (aM l b) (aM l c) (aM l d) x y) (gC (aM l a) (aM l b) (aM l c) (aM l d) x y) (gD (aM l a) (aM l b) (aM l c) (aM l d) x y)
def JJ (r:Nat):List Nat:=
 match r with
 | 0=>[0,1,2,3,4,5,6,7,8,9,10,11,12,13,14,15]
 | 1=>[14,10,4,8,9,15,13,6,1,12,0,2,11,7,5,3]
 | 2=>[11,8,12,0,5,2,15,13,10,14,3,6,7,1,9,4]
 | 3=>[7,9,3,1,13,12,11,14,2,6,5,10,4,0,15,8]
 | 4=>[9,0,5,7,2,4,10,15,14,1,11,12,6,8,3,13]
 | 5=>[2,12,6,10,0,11,8,3,4,13,7,5,15,14,1,9]
 | 6=>[12,5,1,15,14,13,4,10,0,7,6,3,9,2,8,11]
 | 7=>[13,11,7,14,12,1,3,9,5,0,15,4,8,6,2,10]
 | 8=>[6,15,14,9,11,3,0,8,12,2,13,7,1,4,10,5]
 | _=>[10,2,8,4,7,6,1,5,15,11,9,14,3,12,13,0]
def sg (r i:Nat):Nat:=(JJ r).getD i 0
theorem X9 (r i:Nat):sg r i<16:=by
 have h:∀r:Fin 10,∀i:Fin 16,sg r i<16:=by decide
 by_cases hi:i<16
 ·by_cases hr:r<9
  ·exact h ⟨r,by omega⟩ ⟨i,hi⟩
  ·have:sg r i=sg 9 i:=by
    unfold sg JJ
    match r,hr with
    | 0,h=>omega
    | 1,h=>omega
    | 2,h=>omega
    | 3,h=>omega
    | 4,h=>omega
    | 5,h=>omega
    | 6,h=>omega
    | 7,h=>omega
    | 8,h=>omega
    | r+9,h=>rfl
   rw[this]
   exact h 9 ⟨i,hi⟩
 ·unfold sg
  have hl:(JJ r).length=16:=by unfold JJ;split<;>rfl
  rw[List.getD_eq_getElem?_getD,List.getElem?_eq_none (by omega)]
  decide
def jN (v m:LI) (r:Nat):Nat→LI
 | 0=>v
 | k+1=>sS (jN v m r k) (q0 k) (q1 k) (q2 k) (q3 k) (aM m (sg r (2*k))) (aM m (sg r (2*k+1)))
def dI (v m:LI):Nat→LI
 | 0=>v
 | k+1=>jN (dI v m k) m k 8
theorem J4 (l:LI) (a b c d:Nat) (x y:Int):(sS l a b c d x y).length=l.length:=by unfold sS;rw[wO]
theorem kW (v m:LI) (r:Nat):∀k,(jN v m r k).length=v.length
 | 0=>rfl
 | k+1=>by rw[jN,J4,kW v m r k]
theorem jW (v m:LI):∀k,(dI v m k).length=v.length
 | 0=>rfl
 | k+1=>by rw[dI,kW,jW v m k]
theorem YU {l:LI} (h:bJ l) (a b c d:Nat) (x y:Int):bJ (sS l a b c d x y):=
 gX (gX (gX (gX h _ (ai7 _ _ _ _ _ _)) _ (ai8 _ _ _ _ _ _)) _ (ai9 _ _ _ _ _ _)) _ (ajA _ _ _ _ _ _)
theorem AD {v:LI} (h:bJ v) (m:LI) (r:Nat):∀k,bJ (jN v m r k)
 | 0=>h
 | k+1=>YU (AD h m r k) _ _ _ _ _ _
theorem uL {v:LI} (h:bJ v) (m:LI):∀k,bJ (dI v m k)
 | 0=>h
 | k+1=>AD (uL h m k) m k 8
def mP:LI:=[1779033703,3144134277,1013904242,2773480762,1359893119,2600822924,528734635,1541459225]
theorem acK:bJ mP:=by
 intro i
 match i with
 | 0=>exact(show gG 1779033703 from⟨by decide,by decide⟩)
 | 1=>exact(show gG 3144134277 from⟨by decide,by decide⟩)
 | 2=>exact(show gG 1013904242 from⟨by decide,by decide⟩)
 | 3=>exact(show gG 2773480762 from⟨by decide,by decide⟩)
 | 4=>exact(show gG 1359893119 from⟨by decide,by decide⟩)
 | 5=>exact(show gG 2600822924 from⟨by decide,by decide⟩)
 | 6=>exact(show gG 528734635 from⟨by decide,by decide⟩)
 | 7=>exact(show gG 1541459225 from⟨by decide,by decide⟩)
 | i+8=>exact⟨by simp[mP],by simp[mP]⟩
def JT (h:LI) (t:Nat):LI:=(((h++mP).set 12 (xr 1359893119 (t%4294967296:Nat))).set 13 (xr 2600822924 (t / 4294967296:Nat)))
def vJ (h:LI) (t:Nat) (last:Bool):LI:=if last then(JT h t).set 14 (xr 528734635 4294967295)else JT h t
theorem BY (h:LI) (t:Nat) (hh:h.length=8):(JT h t).length=16:=by simp[JT,hh,mP]
theorem BZ (h:LI) (t:Nat) (last:Bool) (hh:h.length=8):(vJ h t last).length=16:=by
 unfold vJ
 split
 ·rw[lJ,BY h t hh]
 ·exact BY h t hh
theorem NK {a b:LI} (ha:bJ a) (hb:bJ b):bJ (a++b):=by
 intro i
 simp only[List.getD_eq_getElem?_getD,List.getElem?_append]
 split
 ·exact ha i
 ·exact hb (i - a.length)
theorem SS {h:LI} (hh:bJ h) (t:Nat):bJ (JT h t):=
 gX (gX (NK hh acK) _ (iY _ _)) _ (iY _ _)
theorem SU {h:LI} (hh:bJ h) (t:Nat) (last:Bool):bJ (vJ h t last):=by
 unfold vJ
 split
 ·exact gX (SS hh t) _ (iY _ _)
 ·exact SS hh t
def oE (h v:LI) (i:Nat):Int:=xr (aM h i) (xr (aM v i) (aM v (i+8)))
theorem OM (a b:Int) (ha:gG a) (hb:gG b):xr a b=((a.toNat^^^b.toNat:Nat):Int):=by
 unfold xr
 obtain⟨x,rfl⟩:=Int.eq_ofNat_of_zero_le ha.1
 obtain⟨y,rfl⟩:=Int.eq_ofNat_of_zero_le hb.1
 have hx:x<2^32:=by have:=ha.2;omega
 have hy:y<2^32:=by have:=hb.2;omega
 have h:=Nat.xor_lt_two_pow hx hy
 have hx':x%2^IntKind.u32.bits=x:=Nat.mod_eq_of_lt hx
 have hy':y%2^IntKind.u32.bits=y:=Nat.mod_eq_of_lt hy
 simp only[bits,BitVec.ofInt_natCast,BitVec.toNat_xor,BitVec.toNat_ofNat,hx',hy',Int.toNat_natCast]
 exact zL _ (Int.natCast_nonneg _) (by exact_mod_cast h)
theorem adV (a b c:Int) (ha:gG a) (hb:gG b) (hc:gG c):xr (xr a b) c=xr a (xr b c):=by
 rw[OM _ c (iY _ _) hc,OM a _ ha (iY _ _),OM a b ha hb,OM b c hb hc]
 simp only[Int.toNat_natCast,Nat.xor_assoc]
def jS (h m:LI) (t:Nat) (last:Bool):LI:=(List.range 8).map (oE h (dI (vJ h t last) m 10))
theorem rK (h m:LI) (t:Nat) (last:Bool):(jS h m t last).length=8:=by simp[jS]
theorem JO (h m:LI) (t:Nat) (last:Bool):bJ (jS h m t last):=by
 intro i
 unfold jS
 simp only[List.getD_eq_getElem?_getD,List.getElem?_map]
 by_cases hi:i<8
 ·rw[List.getElem?_range hi]
  exact iY _ _
 ·rw[List.getElem?_eq_none (by simpa using hi)]
  exact(show gG 0 from⟨by decide,by decide⟩)
def gW (D:LI):LI:=(List.range 16).map (aF D)
def kA (h:LI) (D:LI):Nat→LI
 | 0=>h
 | k+1=>jS (kA h D k) (gW ((D.drop (64*k)).take 64)) (64*(k+1)) false
theorem iN (h D:LI) (hh:h.length=8):∀k,(kA h D k).length=8
 | 0=>hh
 | k+1=>rK _ _ _ _
theorem DP {h:LI} (hh:bJ h) (D:LI):∀k,bJ (kA h D k)
 | 0=>hh
 | k+1=>JO _ _ _ _
def yR (n:Nat):Nat:=(n - 1) / 64
def QA (h D:LI):LI:=jS (kA h D (yR D.length)) (gW (D.drop (64*yR D.length))) D.length true
def jA (n k:Nat):LI:=mP.set 0 (xr 1779033703 (xr (xr 16842752 (k*256:Nat)) n))
theorem oL (n k:Nat):(jA n k).length=8:=by simp[jA,mP]
theorem xN (n k:Nat):bJ (jA n k):=gX acK _ (iY _ _)
theorem FB (h D E:LI):∀k,64*k≤D.length→kA h (D++E) k=kA h D k
 | 0,_=>rfl
 | k+1,hk=>by
   rw[kA,kA,FB h D E k (by omega)]
   congr 2
   rw[List.drop_append_of_le_length (by omega),List.take_append_of_le_length (by simp;omega)]
theorem lK:prog.follows .mixedOrders=true:=by kernel_rfl
theorem afJ (x:Int) (w:World) (h:gG x):Calls prog 106 #[.int .u32 x,.int .i64 16] w fun e w'=>e=.returned (.int .u32 (rl 16 x))∧∃d,w'=w.drewN d:=by
 have hr:rl 16 x=x / 65536+x%65536*65536:=rfl
 have HR:Hid (rl 16 x=x / 65536+x%65536*65536):=hr
 clear hr
 obtain⟨h0,h1⟩:=h
 have hx:(0:Int)≤x%65536:=by omega
 have hx1:x%65536<65536:=by omega
 go_enter func106,ntmps106
 go_wp2_with go_in
 go_quiet (fail)
 go_wp2
 go_ret
 refine⟨?_,nq,rfl⟩
 rw[HR.out]
 rfl
theorem afI (x:Int) (w:World) (h:gG x):Calls prog 106 #[.int .u32 x,.int .i64 12] w fun e w'=>e=.returned (.int .u32 (rl 20 x))∧∃d,w'=w.drewN d:=by
 have hr:rl 20 x=x / 4096+x%4096*1048576:=rfl
 have HR:Hid (rl 20 x=x / 4096+x%4096*1048576):=hr
 clear hr
 obtain⟨h0,h1⟩:=h
 have hx:(0:Int)≤x%4096:=by omega
 have hx1:x%4096<4096:=by omega
 go_enter func106,ntmps106
 go_wp2_with go_in
 go_quiet (fail)
 go_wp2
 go_ret
 refine⟨?_,nq,rfl⟩
 rw[HR.out]
 rfl
theorem ah4 (x:Int) (w:World) (h:gG x):Calls prog 106 #[.int .u32 x,.int .i64 8] w fun e w'=>e=.returned (.int .u32 (rl 24 x))∧∃d,w'=w.drewN d:=by
 have hr:rl 24 x=x / 256+x%256*16777216:=rfl
 have HR:Hid (rl 24 x=x / 256+x%256*16777216):=hr
 clear hr
 obtain⟨h0,h1⟩:=h
 have hx:(0:Int)≤x%256:=by omega
 have hx1:x%256<256:=by omega
 go_enter func106,ntmps106
 go_wp2_with go_in
 go_quiet (fail)
 go_wp2
 go_ret
 refine⟨?_,nq,rfl⟩
 rw[HR.out]
 rfl
theorem ah3 (x:Int) (w:World) (h:gG x):Calls prog 106 #[.int .u32 x,.int .i64 7] w fun e w'=>e=.returned (.int .u32 (rl 25 x))∧∃d,w'=w.drewN d:=by
 have hr:rl 25 x=x / 128+x%128*33554432:=rfl
 have HR:Hid (rl 25 x=x / 128+x%128*33554432):=hr
 clear hr
 obtain⟨h0,h1⟩:=h
 have hx:(0:Int)≤x%128:=by omega
 have hx1:x%128<128:=by omega
 go_enter func106,ntmps106
 go_wp2_with go_in
 go_quiet (fail)
 go_wp2
 go_ret
 refine⟨?_,nq,rfl⟩
 rw[HR.out]
 rfl
theorem nI:(prog.info? 87).map (·.size)=some 16:=by kernel_rfl
theorem UL:(prog.info? 154).map (·.size)=some 8:=by kernel_rfl
def qM (r:Nat):LI:=(JJ r).map Int.ofNat
theorem mR (r:Nat):(qM r).length=16:=by unfold qM JJ;split<;>rfl
theorem VU (r i:Nat):(qM r).getD i 0=(sg r i:Int):=by
 unfold qM sg
 simp only[List.getD_eq_getElem?_getD,List.getElem?_map]
 cases (JJ r)[i]? <;>rfl
theorem acL (w:World):Calls prog 88 #[] w fun e w'=>e=.returned (.agg (Iv .u32 mP))∧Below w.heap.size w w':=by
 go_enter func88,ntmps88
 go_wp2
 exact bodyPost_ret (v:=.agg (Iv .u32 mP)) (results_cell_row rfl _ _ w.heap.size 154 (Iv .u32 mP) (0,0) _ rfl (hAN _ _) underlying154 rfl UL) rfl ⟨rfl,(Below.refl _ _).alloc (nQ _) _⟩
theorem ah5 (w:World):Calls prog 104 #[.int .i64 0] w fun e w'=>e=.returned (.agg (Iv .i64 (qM 0)))∧Below w.heap.size w w':=by
 go_enter func104,ntmps104
 go_wp2
 exact bodyPost_ret (v:=.agg (Iv .i64 (qM 0))) (results_cell_row rfl _ _ w.heap.size 87 (Iv .i64 (qM 0)) (0,0) _ rfl (hAN _ _) underlying87 rfl nI) rfl ⟨rfl,(Below.refl _ _).alloc (nQ _) _⟩
theorem ah6 (w:World):Calls prog 104 #[.int .i64 1] w fun e w'=>e=.returned (.agg (Iv .i64 (qM 1)))∧Below w.heap.size w w':=by
 go_enter func104,ntmps104
 go_wp2
 exact bodyPost_ret (v:=.agg (Iv .i64 (qM 1))) (results_cell_row rfl _ _ w.heap.size 87 (Iv .i64 (qM 1)) (0,0) _ rfl (hAN _ _) underlying87 rfl nI) rfl ⟨rfl,(Below.refl _ _).alloc (nQ _) _⟩
theorem ah7 (w:World):Calls prog 104 #[.int .i64 2] w fun e w'=>e=.returned (.agg (Iv .i64 (qM 2)))∧Below w.heap.size w w':=by
 go_enter func104,ntmps104
 go_wp2
 exact bodyPost_ret (v:=.agg (Iv .i64 (qM 2))) (results_cell_row rfl _ _ w.heap.size 87 (Iv .i64 (qM 2)) (0,0) _ rfl (hAN _ _) underlying87 rfl nI) rfl ⟨rfl,(Below.refl _ _).alloc (nQ _) _⟩
theorem ah8 (w:World):Calls prog 104 #[.int .i64 3] w fun e w'=>e=.returned (.agg (Iv .i64 (qM 3)))∧Below w.heap.size w w':=by
 go_enter func104,ntmps104
 go_wp2
 exact bodyPost_ret (v:=.agg (Iv .i64 (qM 3))) (results_cell_row rfl _ _ w.heap.size 87 (Iv .i64 (qM 3)) (0,0) _ rfl (hAN _ _) underlying87 rfl nI) rfl ⟨rfl,(Below.refl _ _).alloc (nQ _) _⟩
theorem ah9 (w:World):Calls prog 104 #[.int .i64 4] w fun e w'=>e=.returned (.agg (Iv .i64 (qM 4)))∧Below w.heap.size w w':=by
 go_enter func104,ntmps104
 go_wp2
 exact bodyPost_ret (v:=.agg (Iv .i64 (qM 4))) (results_cell_row rfl _ _ w.heap.size 87 (Iv .i64 (qM 4)) (0,0) _ rfl (hAN _ _) underlying87 rfl nI) rfl ⟨rfl,(Below.refl _ _).alloc (nQ _) _⟩
theorem aiA (w:World):Calls prog 104 #[.int .i64 5] w fun e w'=>e=.returned (.agg (Iv .i64 (qM 5)))∧Below w.heap.size w w':=by
 go_enter func104,ntmps104
 go_wp2
 exact bodyPost_ret (v:=.agg (Iv .i64 (qM 5))) (results_cell_row rfl _ _ w.heap.size 87 (Iv .i64 (qM 5)) (0,0) _ rfl (hAN _ _) underlying87 rfl nI) rfl ⟨rfl,(Below.refl _ _).alloc (nQ _) _⟩
theorem aiB (w:World):Calls prog 104 #[.int .i64 6] w fun e w'=>e=.returned (.agg (Iv .i64 (qM 6)))∧Below w.heap.size w w':=by
 go_enter func104,ntmps104
 go_wp2
 exact bodyPost_ret (v:=.agg (Iv .i64 (qM 6))) (results_cell_row rfl _ _ w.heap.size 87 (Iv .i64 (qM 6)) (0,0) _ rfl (hAN _ _) underlying87 rfl nI) rfl ⟨rfl,(Below.refl _ _).alloc (nQ _) _⟩
theorem aiC (w:World):Calls prog 104 #[.int .i64 7] w fun e w'=>e=.returned (.agg (Iv .i64 (qM 7)))∧Below w.heap.size w w':=by
 go_enter func104,ntmps104
 go_wp2
 exact bodyPost_ret (v:=.agg (Iv .i64 (qM 7))) (results_cell_row rfl _ _ w.heap.size 87 (Iv .i64 (qM 7)) (0,0) _ rfl (hAN _ _) underlying87 rfl nI) rfl ⟨rfl,(Below.refl _ _).alloc (nQ _) _⟩
theorem aiD (w:World):Calls prog 104 #[.int .i64 8] w fun e w'=>e=.returned (.agg (Iv .i64 (qM 8)))∧Below w.heap.size w w':=by
 go_enter func104,ntmps104
 go_wp2
 exact bodyPost_ret (v:=.agg (Iv .i64 (qM 8))) (results_cell_row rfl _ _ w.heap.size 87 (Iv .i64 (qM 8)) (0,0) _ rfl (hAN _ _) underlying87 rfl nI) rfl ⟨rfl,(Below.refl _ _).alloc (nQ _) _⟩
theorem aiE (w:World):Calls prog 104 #[.int .i64 9] w fun e w'=>e=.returned (.agg (Iv .i64 (qM 9)))∧Below w.heap.size w w':=by
 go_enter func104,ntmps104
 go_wp2
 exact bodyPost_ret (v:=.agg (Iv .i64 (qM 9))) (results_cell_row rfl _ _ w.heap.size 87 (Iv .i64 (qM 9)) (0,0) _ rfl (hAN _ _) underlying87 rfl nI) rfl ⟨rfl,(Below.refl _ _).alloc (nQ _) _⟩
theorem aa2 (r:Nat) (hr:r<10) (w:World):Calls prog 104 #[.int .i64 r] w fun e w'=>e=.returned (.agg (Iv .i64 (qM r)))∧Below w.heap.size w w':=by
 have hc:r=0∨r=1∨r=2∨r=3∨r=4∨r=5∨r=6∨r=7∨r=8∨r=9:=by omega
 rcases hc with rfl|rfl|rfl|rfl|rfl|rfl|rfl|rfl|rfl|rfl
 ·exact ah5 w
 ·exact ah6 w
 ·exact ah7 w
 ·exact ah8 w
 ·exact ah9 w
 ·exact aiA w
 ·exact aiB w
 ·exact aiC w
 ·exact aiD w
 ·exact aiE w
theorem TM (i:Nat) (h:i<8) (w:World):Calls prog 105 #[.int .i64 i] w fun e w'=>e=.returned (.tuple #[.int .i64 (q0 i),.int .i64 (q1 i),.int .i64 (q2 i),.int .i64 (q3 i)])∧w'=w:=by
 have hc:i=0∨i=1∨i=2∨i=3∨i=4∨i=5∨i=6∨i=7:=by omega
 rcases hc with rfl|rfl|rfl|rfl|rfl|rfl|rfl|rfl
 all_goals
  go_enter func105,ntmps105
  go_wp2
  exact bodyPost_ret (v:=.tuple #[.int .i64 _,.int .i64 _,.int .i64 _,.int .i64 _]) (by simp[results,results105,go_sem];exact⟨rfl,rfl,rfl,rfl⟩) rfl ⟨rfl,rfl⟩
end Go.Proofs.YtmjccemdldidaaaGreatDoor
