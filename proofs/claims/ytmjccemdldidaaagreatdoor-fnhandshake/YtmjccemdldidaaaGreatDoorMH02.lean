import Derived.Laws.BitsLemmas
import Derived.Laws.Bits64
import Derived.Test.YtmjccemdldidaaaGreatDoorRows
import Derived.Test.YtmjccemdldidaaaGreatDoorMH00
import Derived.Lib.Mul64
import Derived.Laws.Bits64b
import Derived.Laws.Externs
namespace Go.Proofs.YtmjccemdldidaaaGreatDoor
open Go.RowKit Go.Lib
open Go.Proofs.Tryz
open Go.RowKit
open Go renaming rounds_succ → rdS, wpQuiet_nil → wqN
open Go.World renaming size_alloc → wU
open List renaming drop_succ_cons → dJ, drop_zero → dY, length_map → lU, take_succ_cons → tU, take_zero → tJ
open Nat renaming le_refl → nQ, le_trans → nU
set_option linter.unusedVariables false
set_option maxHeartbeats 4000000
theorem vW (n:Int) (h0:0≤n) (h1:n<2^64):IntKind.u64.wrap n=n:=by rw[IntKind.wrap_u64];omega
theorem zL (n:Int) (h0:0≤n) (h1:n<2^32):IntKind.u32.wrap n=n:=by rw[IntKind.wrap_u32];omega
theorem mS (x:Int) (h0:0≤x) (h1:x<18446744073709551616):bits .and .u64 x 67108863=x%67108864:=
 bits_mask .u64 64 (by decide) vW 26 (by decide) x h0 h1
theorem alE (i:Nat) (x y:Int) (hi:i≤64) (hx0:0≤x) (hx:x%2^i=0) (hx1:x<18446744073709551616) (hy0:0≤y) (hy:y<2^i):bits .or .u64 x y=x+y:=by
 have h64:(2:Int)^i≤2^64:=by exact_mod_cast Nat.pow_le_pow_right (n:=2) (by decide) hi
 exact bits_join .u64 64 (by decide) vW i x y hx0 hx hx1 hy0 hy (by omega)
theorem BG (i:Nat) (y x:Int) (hi:i≤64) (hx0:0≤x) (hx:x%2^i=0) (hx1:x<18446744073709551616) (hy0:0≤y) (hy:y<2^i):bits .or .u64 y x=y+x:=by
 have h64:(2:Int)^i≤2^64:=by exact_mod_cast Nat.pow_le_pow_right (n:=2) (by decide) hi
 have h:=alE i x y hi hx0 hx hx1 hy0 hy
 obtain⟨a,rfl⟩:=Int.eq_ofNat_of_zero_le hx0
 obtain⟨b,rfl⟩:=Int.eq_ofNat_of_zero_le hy0
 rw[(bits_nat .u64 64 (by decide) vW a b (by omega) (by omega)).2]at h
 rw[(bits_nat .u64 64 (by decide) vW b a (by omega) (by omega)).2,Nat.or_comm,h]
 omega
theorem rW (i:Nat) (y x:Int) (hi:i≤32) (hx0:0≤x) (hx:x%2^i=0) (hx1:x<4294967296) (hy0:0≤y) (hy:y<2^i):bits .or .u32 y x=y+x:=by
 have h32:(2:Int)^i≤2^32:=by exact_mod_cast Nat.pow_le_pow_right (n:=2) (by decide) hi
 have h:=bits_join .u32 32 (by decide) zL i x y hx0 hx hx1 hy0 hy (by omega)
 obtain⟨a,rfl⟩:=Int.eq_ofNat_of_zero_le hx0
 obtain⟨b,rfl⟩:=Int.eq_ofNat_of_zero_le hy0
 rw[(bits_nat .u32 32 (by decide) zL a b (by omega) (by omega)).2]at h
 rw[(bits_nat .u32 32 (by decide) zL b a (by omega) (by omega)).2,Nat.or_comm,h]
 omega
theorem yT (i:Nat) (x y:Int) (hi:i≤32) (hx0:0≤x) (hx:x%2^i=0) (hx1:x<4294967296) (hy0:0≤y) (hy:y<2^i):bits .or .u32 x y=x+y:=by
 have h32:(2:Int)^i≤2^32:=by exact_mod_cast Nat.pow_le_pow_right (n:=2) (by decide) hi
 exact bits_join .u32 32 (by decide) zL i x y hx0 hx hx1 hy0 hy (by omega)
theorem ai0 (x:Int) (h0:0≤x) (h1:x<4294967296):bits .and .u32 x 268435455=x%268435456:=
 bits_mask .u32 32 (by decide) zL 28 (by decide) x h0 h1
theorem aaL (a:Nat):a&&& 268435452=4*(a / 4%67108864):=by
 have h1:(a&&& 268435452) / 2^2=(a / 2^2)&&& 67108863:=by rw[←Nat.shiftRight_eq_div_pow,Nat.shiftRight_and_distrib,←Nat.shiftRight_eq_div_pow];simp
 have h2:(a&&& 268435452)%2^2=0:=by rw[Nat.and_mod_two_pow];simp
 have h3:(a / 2^2)&&& 67108863=(a / 2^2)%67108864:=Nat.and_two_pow_sub_one_eq_mod _ 26
 rw[h3]at h1
 omega
theorem TH (x:Int) (h0:0≤x) (h1:x<4294967296):bits .and .u32 x 268435452=4*(x / 4%67108864):=by
 obtain⟨a,rfl⟩:=Int.eq_ofNat_of_zero_le h0
 have h:=(bits_nat .u32 32 (by decide) zL a 268435452 (by omega) (by decide)).1
 rw[show((268435452:Nat):Int)=268435452 from rfl]at h
 rw[h,aaL]
 omega
def aF (zs:LI) (i:Nat):Int:=zs.getD (4*i) 0+256*zs.getD (4*i+1) 0+65536*zs.getD (4*i+2) 0+16777216*zs.getD (4*i+3) 0
def aC (zs:LI):Prop:=∀i,0≤zs.getD i 0∧zs.getD i 0≤255
theorem FG (zs:LI) (q:Nat):aF (zs.drop (4*q)) 0=aF zs q:=by
 simp only[aF,List.getD_eq_getElem?_getD,List.getElem?_drop]
 rfl
theorem cE {zs:LI} (h:aC zs) (k:Nat):aC (zs.drop k):=by
 intro i
 have:=h (k+i)
 simpa only[List.getD_eq_getElem?_getD,List.getElem?_drop]using this
theorem mL {zs:LI} (h:aC zs) (i:Nat):0≤aF zs i∧aF zs i<4294967296:=by
 have h0:=h (4*i)
 have h1:=h (4*i+1)
 have h2:=h (4*i+2)
 have h3:=h (4*i+3)
 unfold aF
 omega
theorem cM (zs:LI) (n i:Nat):(zs.take n).getD i 0=if i<n then zs.getD i 0 else 0:=by
 simp only[List.getD_eq_getElem?_getD,List.getElem?_take]
 split<;>rfl
theorem dB {zs:LI} (h:aC zs) (n:Nat):aC (zs.take n):=by
 intro i
 have:=h i
 rw[cM]
 split
 ·exact this
 ·omega
theorem yB (zs:LI) (n i:Nat) (h:4*i+3<n):aF (zs.take n) i=aF zs i:=by
 unfold aF
 rw[cM,cM,cM,cM,if_pos (by omega),if_pos (by omega),if_pos (by omega),if_pos (by omega)]
theorem DV (zs:LI) (i:Nat) (h:zs.length≤4*i):aF zs i=0:=by
 unfold aF
 simp only[List.getD_eq_getElem?_getD]
 rw[List.getElem?_eq_none (by omega),List.getElem?_eq_none (by omega),List.getElem?_eq_none (by omega),List.getElem?_eq_none (by omega)]
 rfl
theorem ajR (k:Nat):(2:Int)^(8*k)=256^k:=by rw[Int.pow_mul];rfl
theorem adS (z0 z1 z2 z3:Int) (h0:0≤z0) (g0:z0≤255) (h1:0≤z1) (g1:z1≤255) (h2:0≤z2) (g2:z2≤255) (h3:0≤z3) (g3:z3≤255):
 bits .or .u32 (bits .or .u32 (bits .or .u32 z0 (z1*256)) (z2*65536)) (z3*16777216)=z0+256*z1+65536*z2+16777216*z3:=by
 rw[rW 8 z0 (z1*256) (by decide) (by omega) (by omega) (by omega) (by omega) (by omega),rW 16 (z0+z1*256) (z2*65536) (by decide) (by omega) (by omega) (by omega) (by omega) (by omega),rW 24 (z0+z1*256+z2*65536) (z3*16777216) (by decide) (by omega) (by omega) (by omega) (by omega) (by omega)]
 omega
def pF9 (l:LI) (off:Nat) (f:Nat→Int) (k:Nat):LI:=l.take off++(List.range k).map f++l.drop (off+k)
theorem cR (l:LI) (off:Nat) (f:Nat→Int):pF9 l off f 0=l:=by simp[pF9]
theorem aS (l:LI) (off:Nat) (f:Nat→Int) (k:Nat) (h:off+k≤l.length):(pF9 l off f k).length=l.length:=by
 simp[pF9];omega
theorem cX (l:LI) (off:Nat) (f:Nat→Int) (k i:Nat) (h:off+k≤l.length):(pF9 l off f k)[i]? =if off≤i∧i<off+k then some (f (i - off))else l[i]? :=by
 simp only[pF9]
 rw[List.append_assoc,List.getElem?_append]
 simp only[List.length_take,List.getElem?_append,lU,List.length_range,List.getElem?_map,List.getElem?_drop]
 by_cases h1:i<min off l.length
 ·rw[if_pos h1,if_neg (by omega),List.getElem?_take,if_pos (by omega)]
 ·rw[if_neg h1]
  by_cases h2:i - min off l.length<k
  ·rw[if_pos h2,if_pos (by omega),List.getElem?_range h2]
   simp only[Option.map_some]
   congr 2
   omega
  ·rw[if_neg h2,if_neg (by omega)]
   congr 1
   omega
theorem cP (l:LI) (off:Nat) (f:Nat→Int) (k:Nat) (h:off+k<l.length):(pF9 l off f k).set (off+k) (f k)=pF9 l off f (k+1):=by
 apply List.ext_getElem?
 intro i
 rw[List.getElem?_set,cX _ _ _ _ _ (by omega),cX _ _ _ _ _ (by omega),aS _ _ _ _ (by omega)]
 by_cases h1:off+k=i
 ·subst h1
  rw[if_pos rfl,if_pos (by omega),if_pos (by omega)]
  congr 2
  omega
 ·rw[if_neg h1]
  by_cases h2:off≤i∧i<off+k
  ·rw[if_pos h2,if_pos (by omega)]
  ·rw[if_neg h2,if_neg (by omega)]
theorem BO (l:LI) (f g:Nat→Int) (n m:Nat) (h:n+m≤l.length) (hg:∀i,i<m→g i=f (n+i)):pF9 (pF9 l 0 f n) n g m=pF9 l 0 f (n+m):=by
 apply List.ext_getElem?
 intro i
 rw[cX _ _ _ _ _ (by rw[aS _ _ _ _ (by omega)];omega),cX _ _ _ _ _ (by omega),cX _ _ _ _ _ (by omega)]
 by_cases h1:n≤i∧i<n+m
 ·rw[if_pos h1,if_pos (by omega),hg _ (by omega)]
  congr 2
  omega
 ·rw[if_neg h1]
  by_cases h2:0≤i∧i<0+n
  ·rw[if_pos h2,if_pos (by omega)]
  ·rw[if_neg h2,if_neg (by omega)]
def Car (a0 a1 a2 a3 a4 r0 r1 r2 r3 r4:Int):Prop:=
 ∃c0 c1 c2 c3 c4 t0 t1 d:Int,a0=67108864*c0+t0∧0≤t0∧t0<67108864∧a1+c0=67108864*c1+t1∧0≤t1∧t1<67108864∧
  a2+c1=67108864*c2+r2∧0≤r2∧r2<67108864∧a3+c2=67108864*c3+r3∧0≤r3∧r3<67108864∧a4+c3=67108864*c4+r4∧0≤r4∧r4<67108864∧
  t0+5*c4=67108864*d+r0∧0≤r0∧r0<67108864∧r1=t1+d
theorem agS (a0 a1 a2 a3 a4:Int) (h0:0≤a0) (g0:a0≤576460752303423488) (h1:0≤a1) (g1:a1≤576460752303423488) (h2:0≤a2) (g2:a2≤576460752303423488) (h3:0≤a3) (g3:a3≤576460752303423488) (h4:0≤a4) (g4:a4≤576460752303423488):
 Car a0 a1 a2 a3 a4
  (bits .and .u64 (IntKind.u64.wrap (bits .and .u64 a0 67108863+5*((a4+(a3+(a2+(a1+a0 / 67108864) / 67108864) / 67108864) / 67108864) / 67108864))) 67108863)
  (IntKind.u64.wrap (bits .and .u64 (a1+a0 / 67108864) 67108863+IntKind.u64.wrap (bits .and .u64 a0 67108863+5*((a4+(a3+(a2+(a1+a0 / 67108864) / 67108864) / 67108864) / 67108864) / 67108864)) / 67108864))
  (bits .and .u64 (a2+(a1+a0 / 67108864) / 67108864) 67108863)
  (bits .and .u64 (a3+(a2+(a1+a0 / 67108864) / 67108864) / 67108864) 67108863)
  (bits .and .u64 (a4+(a3+(a2+(a1+a0 / 67108864) / 67108864) / 67108864) / 67108864) 67108863):=by
 have e0:=mS a0 h0 (by omega)
 generalize hc0:a0 / 67108864=c0
 have e1:=mS (a1+c0) (by omega) (by omega)
 generalize hc1:(a1+c0) / 67108864=c1
 have e2:=mS (a2+c1) (by omega) (by omega)
 generalize hc2:(a2+c1) / 67108864=c2
 have e3:=mS (a3+c2) (by omega) (by omega)
 generalize hc3:(a3+c2) / 67108864=c3
 have e4:=mS (a4+c3) (by omega) (by omega)
 generalize hc4:(a4+c3) / 67108864=c4
 have w0:IntKind.u64.wrap (a0%67108864+5*c4)=a0%67108864+5*c4:=vW _ (by omega) (by omega)
 have e5:=mS (a0%67108864+5*c4) (by omega) (by omega)
 have w1:IntKind.u64.wrap ((a1+c0)%67108864+(a0%67108864+5*c4) / 67108864)=(a1+c0)%67108864+(a0%67108864+5*c4) / 67108864:=vW _ (by omega) (by omega)
 rw[e0,w0,e5,e1,w1,e2,e3,e4]
 refine⟨c0,c1,c2,c3,c4,a0%67108864,(a1+c0)%67108864,(a0%67108864+5*c4) / 67108864,?_⟩
 omega
def V5 (a0 a1 a2 a3 a4:Int):Int:=a0+67108864*a1+4503599627370496*a2+302231454903657293676544*a3+20282409603651670423947251286016*a4
def pR (a0 a1 a2 a3 a4:Int):Prop:=0≤a0∧a0≤67108863∧0≤a1∧a1≤67108863∧0≤a2∧a2≤67108863∧0≤a3∧a3≤67108863∧0≤a4∧a4≤67108863
def gV:Int:=1361129467683753853853498429727072845819
theorem LN {a0 a1 a2 a3 a4 r0 r1 r2 r3 r4:Int} (h:Car a0 a1 a2 a3 a4 r0 r1 r2 r3 r4):∃q,V5 r0 r1 r2 r3 r4=V5 a0 a1 a2 a3 a4 - gV*q:=by
 obtain⟨c0,c1,c2,c3,c4,t0,t1,d,h⟩:=h
 refine⟨c4,?_⟩
 unfold V5 gV
 omega
theorem agR {a0 a1 a2 a3 a4 r0 r1 r2 r3 r4:Int} (h:Car a0 a1 a2 a3 a4 r0 r1 r2 r3 r4) (h0:0≤a0) (g0:a0≤576460752303423488) (h1:0≤a1) (g1:a1≤576460752303423488) (h2:0≤a2) (g2:a2≤576460752303423488) (h3:0≤a3) (g3:a3≤576460752303423488) (h4:0≤a4) (g4:a4≤576460752303423488):
 0≤r0∧r0≤67108863∧0≤r1∧r1≤67109888∧0≤r2∧r2≤67108863∧0≤r3∧r3≤67108863∧0≤r4∧r4≤67108863:=by
 obtain⟨c0,c1,c2,c3,c4,t0,t1,d,h⟩:=h
 omega
theorem Q6 (w0 w1 w2 w3 w4:Int) (h0:0≤w0) (g0:w0<4294967296) (h1:0≤w1) (g1:w1<4294967296) (h2:0≤w2) (g2:w2<4294967296) (h3:0≤w3) (g3:w3<4294967296) (h4:0≤w4) (g4:w4≤1):
 V5 (w0%67108864) (w0 / 67108864+64*(w1%1048576)) (w1 / 1048576+4096*(w2%16384)) (w2 / 16384+262144*(w3%256)) (w3 / 256+16777216*w4)=
  w0+4294967296*w1+18446744073709551616*w2+79228162514264337593543950336*w3+340282366920938463463374607431768211456*w4∧
 pR (w0%67108864) (w0 / 67108864+64*(w1%1048576)) (w1 / 1048576+4096*(w2%16384)) (w2 / 16384+262144*(w3%256)) (w3 / 256+16777216*w4):=by
 unfold V5 pR
 omega
theorem Y6 {a0 a1 a2 a3 a4 r0 r1 r2 r3 r4:Int} (h:Car a0 a1 a2 a3 a4 r0 r1 r2 r3 r4) (h0:0≤a0) (g0:a0≤67108863) (h1:0≤a1) (g1:a1≤67109888) (h2:0≤a2) (g2:a2≤67108863) (h3:0≤a3) (g3:a3≤67108863) (h4:0≤a4) (g4:a4≤67108863):
 0≤r0∧r0≤67108863∧0≤r1∧r1≤67108863∧0≤r2∧r2≤67108863∧0≤r3∧r3≤67108863∧0≤r4∧r4≤67108863:=by
 obtain⟨c0,c1,c2,c3,c4,t0,t1,d,h⟩:=h
 omega
theorem VF (r0 r1 r2 r3 r4:Int) (h0:0≤r0) (g0:r0≤67108863) (h1:0≤r1) (g1:r1≤67108863) (h2:0≤r2) (g2:r2≤67108863) (h3:0≤r3) (g3:r3≤67108863) (h4:0≤r4) (g4:r4≤67108863) (c:Int)
 (hc:c=(r4+(r3+(r2+(r1+(r0+5) / 67108864) / 67108864) / 67108864) / 67108864) / 67108864):
 (0<c→V5 (bits .and .u64 (r0+5) 67108863) (bits .and .u64 (r1+(r0+5) / 67108864) 67108863) (bits .and .u64 (r2+(r1+(r0+5) / 67108864) / 67108864) 67108863)
   (bits .and .u64 (r3+(r2+(r1+(r0+5) / 67108864) / 67108864) / 67108864) 67108863) (bits .and .u64 (r4+(r3+(r2+(r1+(r0+5) / 67108864) / 67108864) / 67108864) / 67108864) 67108863)=V5 r0 r1 r2 r3 r4 - gV∧gV≤V5 r0 r1 r2 r3 r4)∧
 (¬0<c→V5 r0 r1 r2 r3 r4<gV)∧V5 r0 r1 r2 r3 r4<1361129467683753853853498429727072845824∧0≤V5 r0 r1 r2 r3 r4:=by
 rw[mS _ (by omega) (by omega),mS _ (by omega) (by omega),mS _ (by omega) (by omega),mS _ (by omega) (by omega),mS _ (by omega) (by omega)]
 generalize hc0:(r0+5) / 67108864=c0 at*
 generalize hc1:(r1+c0) / 67108864=c1 at*
 generalize hc2:(r2+c1) / 67108864=c2 at*
 generalize hc3:(r3+c2) / 67108864=c3 at*
 unfold V5 gV
 refine⟨fun h=>⟨by omega,by omega⟩,fun h=>by omega,by omega,by omega⟩
theorem jE:prog.follows .mixedOrders=true:=by kernel_rfl
theorem TW (a:Nat) (ha:a<18446744073709551616):bits .and .u64 (a:Int) 4294967295=((a%4294967296:Nat):Int):=by
 have h:=bits_and_u64_nat a 4294967295 ha (by omega)
 have e:a&&& 4294967295=a%4294967296:=Nat.and_two_pow_sub_one_eq_mod a 32
 rw[e]at h
 exact h
theorem ai4 (a:Nat):(a:Int) / 4294967296=((a / 4294967296:Nat):Int):=by omega
theorem ai5 (a b:Nat):(a:Int)*(b:Int)=((a*b:Nat):Int):=(Int.natCast_mul a b).symm
theorem ai3 (a b:Nat):(a:Int)+(b:Int)=((a+b:Nat):Int):=(Int.natCast_add a b).symm
theorem vS (a:Nat) (ha:a<18446744073709551616):IntKind.u64.wrap (a:Int)=(a:Int):=by rw[IntKind.wrap_u64];omega
theorem aeI (a:Nat):IntKind.u64.wrap (a:Int)=((a%18446744073709551616:Nat):Int):=by rw[IntKind.wrap_u64];omega
theorem aaK (x y:Nat) (hx:x<18446744073709551616) (hy:y<18446744073709551616) (w:World):
 Calls prog 125 #[.int .u64 x,.int .u64 y] w fun e w'=>e=.returned (.tuple #[.int .u64 ((x*y / 18446744073709551616:Nat):Int),.int .u64 ((x*y%18446744073709551616:Nat):Int)])∧w'=w:=by
 obtain⟨bd,bt,bw,hhi⟩:=Lib.mul64_hi x y hx hy
 have ba:=Lib.half_mul_le (a:=x / 4294967296) (b:=y / 4294967296) (by omega) (by omega)
 have bb:=Lib.half_mul_le (a:=x / 4294967296) (b:=y%4294967296) (by omega) (by omega)
 have bc:=Lib.half_mul_le (a:=x%4294967296) (b:=y / 4294967296) (by omega) (by omega)
 have ba':x / 4294967296*(y / 4294967296)<18446744073709551616:=by omega
 have bb':x / 4294967296*(y%4294967296)<18446744073709551616:=by omega
 have bc':x%4294967296*(y / 4294967296)<18446744073709551616:=by omega
 have bh1:x / 4294967296*(y / 4294967296)+(x / 4294967296*(y%4294967296)+x%4294967296*(y%4294967296) / 4294967296) / 4294967296<18446744073709551616:=by omega
 have bh:x / 4294967296*(y / 4294967296)+(x / 4294967296*(y%4294967296)+x%4294967296*(y%4294967296) / 4294967296) / 4294967296+((x / 4294967296*(y%4294967296)+x%4294967296*(y%4294967296) / 4294967296)%4294967296+x%4294967296*(y / 4294967296)) / 4294967296<18446744073709551616:=by omega
 go_enter func125,ntmps125
 go_wp2
 simp only[TW x hx,TW y hy,ai4,ai5,ai3,vS _ bd,vS _ bb',vS _ bt,TW _ bt,vS _ bc',vS _ bw,vS _ ba',vS _ bh1,vS _ bh,aeI (x*y)]
 rw[hhi]
 go_ret2
 exact⟨rfl,rfl⟩
theorem aaJ (x y:Int) (hx:0≤x∧x≤18446744073709551615) (hy:0≤y∧y≤18446744073709551615) (w:World):
 Calls prog 125 #[.int .u64 x,.int .u64 y] w fun e w'=>e=.returned (.tuple #[.int .u64 (x*y / 18446744073709551616),.int .u64 (x*y%18446744073709551616)])∧w'=w:=by
 obtain⟨a,rfl⟩:∃a:Nat,x=a:=⟨x.toNat,by omega⟩
 obtain⟨b,rfl⟩:∃b:Nat,y=b:=⟨y.toNat,by omega⟩
 refine(aaK a b (by omega) (by omega) w).mono ?_
 rintro e w' ⟨rfl,rfl⟩
 refine⟨?_,rfl⟩
 simp only[←Int.natCast_mul,Int.natCast_ediv,Int.natCast_emod]
 rfl
theorem GV (x y c:Int) (hx:0≤x) (hy:0≤y) (hc0:0≤c) (hc:c≤1) (w:World):
 (callFunc 126 #[.int .u64 x,.int .u64 y,.int .u64 c]).run prog w=.ok (.value (.tuple #[.int .u64 ((x+y+c)%18446744073709551616),.int .u64 ((x+y+c) / 18446744073709551616)])) w:=by
 rw[run_callFunc_extern func126 (by kernel_rfl) (by kernel_rfl) (by kernel_rfl) (e:=add64Entry) (by kernel_rfl),run_add64 x y c hx hy hc0 hc]
 rfl
def pJ (v:Int):Array Value:=#[.int .u64 (v / 18446744073709551616),.int .u64 (v%18446744073709551616)]
theorem agA:(prog.info? 206).map (·.size)=some 2:=by kernel_rfl
theorem bN (v a b:Int) (hv:0≤v) (ha:0≤a∧a≤18446744073709551615) (hb:0≤b∧b≤18446744073709551615) (hs:v+a*b<340282366920938463463374607431768211456) (r:Int) (hr:v+a*b=r) (w:World):
 Calls prog 113 #[.agg (pJ v),.int .u64 a,.int .u64 b] w fun e w'=>e=.returned (.agg (pJ r))∧Below w.heap.size w w':=by
 have h0:0≤a*b:=Int.mul_nonneg ha.1 hb.1
 have HM:Hid (∀W,Calls prog 125 #[.int .u64 a,.int .u64 b] W fun e w'=>e=.returned (.tuple #[.int .u64 (a*b / 18446744073709551616),.int .u64 (a*b%18446744073709551616)])∧w'=W):=fun W=>aaJ a b ha hb W
 generalize a*b=q at*
 obtain⟨H,eH⟩:∃H,v / 18446744073709551616=H:=⟨_,rfl⟩
 obtain⟨L,eL⟩:∃L,v%18446744073709551616=L:=⟨_,rfl⟩
 obtain⟨h,eh⟩:∃h,q / 18446744073709551616=h:=⟨_,rfl⟩
 obtain⟨l,el⟩:∃l,q%18446744073709551616=l:=⟨_,rfl⟩
 have HW:Hid (#[Value.int .u64 ((H+h+(L+l) / 18446744073709551616)%18446744073709551616),.int .u64 ((L+l)%18446744073709551616)]=pJ r):=by
  show _=_
  unfold pJ
  have e1:(H+h+(L+l) / 18446744073709551616)%18446744073709551616=r / 18446744073709551616:=by omega
  have e2:(L+l)%18446744073709551616=r%18446744073709551616:=by omega
  rw[e1,e2]
 have hH:0≤H:=by omega
 have hL:0≤L:=by omega
 have hh:0≤h:=by omega
 have hl:0≤l:=by omega
 have A1:=GV L l 0 hL hl (by decide) (by decide)
 simp only[Int.add_zero]at A1
 have A2:=GV H h ((L+l) / 18446744073709551616) hH hh (by omega) (by omega)
 rw[show pJ v=#[.int .u64 H,.int .u64 L] by unfold pJ;rw[eH,eL]]
 rw[eh,el]at HM
 clear eH eL eh el hs hr hv h0
 go_enter func113,ntmps113
 go_wp2_with fail
 refine(HM.out _).mono ?_
 rintro e w' ⟨rfl,rfl⟩
 go_wp2
 refine bodyPost_ret (results_cell_row rfl _ _ _ _ #[.int .u64 ((H+h+(L+l) / 18446744073709551616)%18446744073709551616),.int .u64 ((L+l)%18446744073709551616)] _ _ rfl (by rw[cI,if_pos (by simp)]) underlying206 rfl agA) rfl ⟨?_,((Below.refl _ _).alloc (nQ _) _).alloc (by simp) _⟩
 exact congrArg _ (congrArg _ HW.out)
theorem ahS (k:Nat) (m x y:Int) (hm:m=((2^k:Nat):Int)) (hx:0≤x) (hy:0≤y) (hyk:y<m) (h:x*m+y<18446744073709551616):bits .or .u64 (x*m) y=x*m+y:=by
 obtain⟨a,rfl⟩:∃a:Nat,x=a:=⟨x.toNat,by omega⟩
 obtain⟨b,rfl⟩:∃b:Nat,y=b:=⟨y.toNat,by omega⟩
 subst hm
 have e:(a:Int)*((2^k:Nat):Int)=((2^k*a:Nat):Int):=by rw[Nat.mul_comm,Int.natCast_mul]
 rw[e]at h⊢
 have hb:b<2^k:=Int.ofNat_lt.1 hyk
 rw[bits_or_u64_nat _ _ (by omega) (by omega),←Nat.two_pow_add_eq_or_of_lt hb a]
 omega
theorem xS (k:Nat) (m x y:Int) (hm:m=((2^k:Nat):Int)) (hx:0≤x) (hy:0≤y) (hyk:y<m) (h:x*m+y<18446744073709551616):bits .or .u64 y (x*m)=x*m+y:=by
 obtain⟨a,rfl⟩:∃a:Nat,x=a:=⟨x.toNat,by omega⟩
 obtain⟨b,rfl⟩:∃b:Nat,y=b:=⟨y.toNat,by omega⟩
 subst hm
 have e:(a:Int)*((2^k:Nat):Int)=((2^k*a:Nat):Int):=by rw[Nat.mul_comm,Int.natCast_mul]
 rw[e]at h⊢
 have hb:b<2^k:=Int.ofNat_lt.1 hyk
 rw[bits_or_u64_nat _ _ (by omega) (by omega),Nat.or_comm,←Nat.two_pow_add_eq_or_of_lt hb a]
 omega
theorem oX (x:Int) (hx:0≤x) (hx2:x<18446744073709551616):bits .and .u64 x 2251799813685247=x%2251799813685248:=by
 obtain⟨a,rfl⟩:∃a:Nat,x=a:=⟨x.toNat,by omega⟩
 have h:=bits_and_u64_nat a 2251799813685247 (by omega) (by decide)
 have e:a&&& 2251799813685247=a%2251799813685248:=Nat.and_two_pow_sub_one_eq_mod a 51
 rw[e]at h
 rw[show((a%2251799813685248:Nat):Int)=(a:Int)%2251799813685248 by omega]at h
 exact h
theorem mG (v:Int) (hv:0≤v) (hs:v<41538374868278621028243970633760768) (w:World):
 Calls prog 114 #[.agg (pJ v)] w fun e w'=>e=.returned (.int .u64 (v / 2251799813685248))∧Below w.heap.size w w':=by
 obtain⟨H,eH⟩:∃H,v / 18446744073709551616=H:=⟨_,rfl⟩
 obtain⟨L,eL⟩:∃L,v%18446744073709551616=L:=⟨_,rfl⟩
 have hH0:0≤H:=by omega
 have hL0:0≤L:=by omega
 have hH2:H<2251799813685248:=by omega
 have hL2:L<18446744073709551616:=by omega
 have HV:Hid (bits .or .u64 (H*8192) (L / 2251799813685248)=v / 2251799813685248):=by
  show _=_
  rw[ahS 13 8192 H (L / 2251799813685248) (by decide) hH0 (by omega) (by omega) (by omega)]
  omega
 rw[show pJ v=#[.int .u64 H,.int .u64 L] by unfold pJ;rw[eH,eL]]
 clear eH eL hs hv
 go_enter func114,ntmps114
 go_wp2
 go_ret
 exact⟨congrArg _ (congrArg _ HV.out),(Below.refl _ _).alloc (nQ _) _⟩
def pF:Int:=57896044618658097711785492504343953926634992332820282019728792003956564819949
def nS (a b c d e:Int):Int:=a+2251799813685248*b+5070602400912917605986812821504*c+11417981541647679048466287755595961091061972992*d+25711008708143844408671393477458601640355247900524685364822016*e
def El (a b c d e:Int):Prop:=(0≤a∧a<2251799813685312)∧(0≤b∧b<2251799813685248)∧(0≤c∧c<2251799813685248)∧(0≤d∧d<2251799813685248)∧(0≤e∧e<2251799813685248)
theorem lT:(prog.info? 187).map (·.size)=some 5:=by kernel_rfl
theorem PV (x0 x1 x2 x3 x4:Int) (h0:0≤x0∧x0≤9223372036854775807) (h1:0≤x1∧x1≤6755399441055744) (h2:0≤x2∧x2≤6755399441055744) (h3:0≤x3∧x3≤6755399441055744) (h4:0≤x4∧x4≤6755399441055744)
 (y0 y1 y2 y3 y4 c0 c1 c2 c3 c4:Int) (e0:y0=x0) (f0:c0=y0 / 2251799813685248) (e1:y1=x1+c0) (f1:c1=y1 / 2251799813685248) (e2:y2=x2+c1) (f2:c2=y2 / 2251799813685248) (e3:y3=x3+c2) (f3:c3=y3 / 2251799813685248) (e4:y4=x4+c3) (f4:c4=y4 / 2251799813685248):
 El (y0%2251799813685248+19*c4) (y1%2251799813685248) (y2%2251799813685248) (y3%2251799813685248) (y4%2251799813685248)∧
 nS (y0%2251799813685248+19*c4) (y1%2251799813685248) (y2%2251799813685248) (y3%2251799813685248) (y4%2251799813685248)=nS x0 x1 x2 x3 x4 - c4*pF:=by
 unfold El nS pF
 omega
def oD (x0 x1 x2 x3 x4:Int):LI:=
 let c0:=x0 / 2251799813685248
 let c1:=(x1+c0) / 2251799813685248
 let c2:=(x2+c1) / 2251799813685248
 let c3:=(x3+c2) / 2251799813685248
 let c4:=(x4+c3) / 2251799813685248
 [x0%2251799813685248+19*c4,(x1+c0)%2251799813685248,(x2+c1)%2251799813685248,(x3+c2)%2251799813685248,(x4+c3)%2251799813685248]
def vL:LI→Int
 | [a,b,c,d,e]=>nS a b c d e
 | _=>0
def kL:LI→Prop
 | [a,b,c,d,e]=>El a b c d e
 | _=>False
theorem kL.five {l:LI} (h:kL l):∃a b c d e,l=[a,b,c,d,e]∧El a b c d e:=by
 match l,h with
 | [a,b,c,d,e],h=>exact⟨a,b,c,d,e,rfl,h⟩
theorem kL.length {l:LI} (h:kL l):l.length=5:=by
 obtain⟨a,b,c,d,e,rfl,_⟩:=h.five
 rfl
def bT (l:LI) (n:Int):Prop:=kL l∧∃q,vL l=n - q*pF
theorem AG (x0 x1 x2 x3 x4:Int) (h0:0≤x0∧x0≤9223372036854775807) (h1:0≤x1∧x1≤6755399441055744) (h2:0≤x2∧x2≤6755399441055744) (h3:0≤x3∧x3≤6755399441055744) (h4:0≤x4∧x4≤6755399441055744):bT (oD x0 x1 x2 x3 x4) (nS x0 x1 x2 x3 x4):=by
 have h:=PV x0 x1 x2 x3 x4 h0 h1 h2 h3 h4 _ _ _ _ _ _ _ _ _ _ rfl rfl rfl rfl rfl rfl rfl rfl rfl rfl
 exact⟨h.1,_,h.2⟩
theorem bE {l:LI} (h:l.length=5):(prog.info? 187).map (·.size)=some (Iv .u64 l).size:=by rw[aD,h];exact lT
theorem NG {l:LI} (h:l.length=5):(Iv .u64 [0,0,0,0,0]).size=(Iv .u64 l).size:=by rw[aD,aD,h];rfl
theorem oY (x0 x1 x2 x3 x4:Int) (h0:0≤x0∧x0≤9223372036854775807) (h1:0≤x1∧x1≤6755399441055744) (h2:0≤x2∧x2≤6755399441055744) (h3:0≤x3∧x3≤6755399441055744) (h4:0≤x4∧x4≤6755399441055744) (w:World):
 Calls prog 112 #[.agg (Iv .u64 [x0,x1,x2,x3,x4])] w fun e w'=>e=.returned (.agg (Iv .u64 (oD x0 x1 x2 x3 x4)))∧Below w.heap.size w w':=by
 obtain⟨R,hR⟩:∃R,oD x0 x1 x2 x3 x4=R:=⟨_,rfl⟩
 have HR:Hid _:=hR
 rw[hR]
 clear hR
 obtain⟨c0,f0⟩:∃c,c=x0 / 2251799813685248:=⟨_,rfl⟩
 obtain⟨c1,f1⟩:∃c,c=(x1+c0) / 2251799813685248:=⟨_,rfl⟩
 obtain⟨c2,f2⟩:∃c,c=(x2+c1) / 2251799813685248:=⟨_,rfl⟩
 obtain⟨c3,f3⟩:∃c,c=(x3+c2) / 2251799813685248:=⟨_,rfl⟩
 obtain⟨c4,f4⟩:∃c,c=(x4+c3) / 2251799813685248:=⟨_,rfl⟩
 have k0:0≤c0∧c0≤4096:=by omega
 have k1:0≤c1∧c1≤4:=by omega
 have k2:0≤c2∧c2≤4:=by omega
 have k3:0≤c3∧c3≤4:=by omega
 have k4:0≤c4∧c4≤4:=by omega
 have a0:=oX x0 h0.1 (by omega)
 have a1:=oX (x1+c0) (by omega) (by omega)
 have a2:=oX (x2+c1) (by omega) (by omega)
 have a3:=oX (x3+c2) (by omega) (by omega)
 have a4:=oX (x4+c3) (by omega) (by omega)
 obtain⟨r0,e0⟩:∃r,x0%2251799813685248=r:=⟨_,rfl⟩
 obtain⟨r1,e1⟩:∃r,(x1+c0)%2251799813685248=r:=⟨_,rfl⟩
 obtain⟨r2,e2⟩:∃r,(x2+c1)%2251799813685248=r:=⟨_,rfl⟩
 obtain⟨r3,e3⟩:∃r,(x3+c2)%2251799813685248=r:=⟨_,rfl⟩
 obtain⟨r4,e4⟩:∃r,(x4+c3)%2251799813685248=r:=⟨_,rfl⟩
 have l0:0≤r0∧r0<2251799813685248:=by omega
 have HN:Hid ([r0+19*c4,r1,r2,r3,r4]=R):=by
  show _=_
  rw[←HR.out]
  unfold oD
  simp only
  rw[←f0,←f1,←f2,←f3,←f4,e0,e1,e2,e3,e4]
 rw[e0]at a0
 rw[e1]at a1
 rw[e2]at a2
 rw[e3]at a3
 rw[e4]at a4
 have F0:=f0.symm
 have F1:=f1.symm
 have F2:=f2.symm
 have F3:=f3.symm
 have F4:=f4.symm
 clear f0 f1 f2 f3 f4 e0 e1 e2 e3 e4 HR
 have hrow:∀a b c d e:Int,Iv .u64 [a,b,c,d,e]=#[.int .u64 a,.int .u64 b,.int .u64 c,.int .u64 d,.int .u64 e]:=fun _ _ _ _ _=>rfl
 rw[hrow]
 go_enter func112,ntmps112
 go_wp2
 refine wp_loop_rounds 6 ?_
 iterate 6 (rw[rdS];go_wp2)
 refine bodyPost_ret (v:=.agg (Iv .u64 [r0+19*c4,r1,r2,r3,r4])) (results_cell_row rfl _ _ _ _ (Iv .u64 [r0+19*c4,r1,r2,r3,r4]) _ _ rfl (by rw[cI,if_pos (by simp)];rfl) underlying187 rfl lT) rfl ⟨?_,((Below.refl _ _).alloc (by simp) _).alloc (by simp) _⟩
 rw[HN.out]
section
variable {P:Program} {ops:Array Oper} {C:World→Prop} {Q:Act→Prop} {a:Act} {o:Oper} {rest:List Oper}
theorem kJ (hgd:o.guard=none) {v:Value} (h1:∀w,C w→o.quietAt P a C w v) (h:wpQuiet P ops C Q rest (a.put o.dst v)):wpQuiet P ops C Q (o::rest) a:=by
 unfold wpQuiet
 rw[if_pos (by simp[Region.wanted,hgd])]
 exact⟨v,h1,h⟩
theorem wqLr (hgd:o.guard=none) (ty:TypeId) (x:Operand) (ho:o.op=.load ty x)
 (g:Nat) (hx:a.eval x=.pointer (some ⟨g,0,none⟩)) (t:TypeId) (cs:Array Value) (fr:Nat×Nat) (d:TypeDesc) (hg:∀w,C w→w.heap[g]? =some (.cells cs t fr))
 (hu:P.underlying ty=some d) (hd:(match d with| .struct _| .array _ _=>true|_=>false)=true) (hi:(P.info? ty).map (·.size)=some cs.size)
 (h:wpQuiet P ops C Q rest (a.put o.dst (.agg cs))):wpQuiet P ops C Q (o::rest) a:=by
 refine kJ hgd (v:=.agg cs) (fun w hw=>?_) h
 have e:(execOp a.eval o).run P w=.ok (.value (.agg cs)) w:=by
  unfold execOp
  simp only[ho,hx,Instr.loadAt,Instr.sureAddr,Sem.run_bind,Sem.run_pure,Result.andThen_ok,run_loadVar_row w g t ty cs fr d (hg w hw) hu hd hi]
 unfold Oper.quietAt
 rw[e]
 exact⟨rfl,rfl⟩
end
structure yM (B:Nat) (W0:World) where
 w:World
 bel:Below B W0 w
theorem tC {P:Program} {id:Nat} {Q:Exit→Act→World→Prop} {a:Act} {w:World} {l:List Oper} (B:Nat) (W0:World) (hm:P.follows .mixedOrders=true) (hB:Region.lexB .any l.toArray=true) (hw:Below B W0 w)
 (h:wpQuiet P l.toArray (fun w'=>∃x:yM B W0,w'=x.w) (fun a'=>∀w',Below B W0 w'→Q .normal a' w') l a):(Code.region id l.toArray true).wp P Q a w:=
 wp_region_quiet (C:=fun w'=>∃x:yM B W0,w'=x.w) hm hB ⟨⟨_,bDr hw 1⟩,rfl⟩ (by
  have:=lO (R':=fun a'=>∀w',(∃x:yM B W0,w'=x.w)→Q .normal a' w') (fun a' h' w' ⟨x,hx⟩=>by subst hx;exact h' _ x.bel) _ _ h
  simpa using this)
theorem Y5 {P:Program} {f:Nat} {args:Array Value} {v:Value} {W0:World} {B:Nat} (x:yM B W0) (hB:B≤W0.heap.size)
 (h:Calls P f args x.w fun e w'=>e=.returned v∧Below x.w.heap.size x.w w'):Calls P f args x.w fun e w'=>e=.returned v∧∃y:yM B W0,w'=y.w:=
 h.mono fun e w' ⟨h1,h2⟩=>⟨h1,⟨w',x.bel.trans (h2.mono (nU hB x.bel.size))⟩,rfl⟩
theorem zB {B:Nat} {a w:World} (h:Below B a w):Below B a w.drew:=bDr h 1
def yU:LI→LI→LI
 | [a0,a1,a2,a3,a4],[b0,b1,b2,b3,b4]=>oD (a0+b0) (a1+b1) (a2+b2) (a3+b3) (a4+b4)
 | _,_=>[]
def sX:LI→LI→LI
 | [a0,a1,a2,a3,a4],[b0,b1,b2,b3,b4]=>oD (a0+(4503599627370458 - b0)) (a1+(4503599627370494 - b1)) (a2+(4503599627370494 - b2)) (a3+(4503599627370494 - b3)) (a4+(4503599627370494 - b4))
 | _,_=>[]
theorem RN (a b:LI) (ha:kL a) (hb:kL b):bT (yU a b) (vL a+vL b):=by
 obtain⟨a0,a1,a2,a3,a4,rfl,hA0,hA1,hA2,hA3,hA4⟩:=ha.five
 obtain⟨b0,b1,b2,b3,b4,rfl,hB0,hB1,hB2,hB3,hB4⟩:=hb.five
 obtain⟨h1,q,h2⟩:=AG (a0+b0) (a1+b1) (a2+b2) (a3+b3) (a4+b4) (by omega) (by omega) (by omega) (by omega) (by omega)
 refine⟨h1,q,?_⟩
 show vL (oD _ _ _ _ _)=nS _ _ _ _ _+nS _ _ _ _ _ - _
 rw[h2]
 unfold nS
 omega
theorem MG (a b:LI) (ha:kL a) (hb:kL b):bT (sX a b) (vL a - vL b):=by
 obtain⟨a0,a1,a2,a3,a4,rfl,hA0,hA1,hA2,hA3,hA4⟩:=ha.five
 obtain⟨b0,b1,b2,b3,b4,rfl,hB0,hB1,hB2,hB3,hB4⟩:=hb.five
 obtain⟨h1,q,h2⟩:=AG (a0+(4503599627370458 - b0)) (a1+(4503599627370494 - b1)) (a2+(4503599627370494 - b2)) (a3+(4503599627370494 - b3)) (a4+(4503599627370494 - b4)) (by omega) (by omega) (by omega) (by omega) (by omega)
 refine⟨h1,q - 2,?_⟩
 show vL (oD _ _ _ _ _)=nS _ _ _ _ _ - nS _ _ _ _ _ - _
 rw[h2]
 unfold nS pF
 omega
theorem ac4 (a b:LI) (ha:kL a) (hb:kL b) (w:World):
 Calls prog 123 #[.agg (Iv .u64 a),.agg (Iv .u64 b)] w fun e w'=>e=.returned (.agg (Iv .u64 (yU a b)))∧Below w.heap.size w w':=by
 obtain⟨a0,a1,a2,a3,a4,rfl,hA0,hA1,hA2,hA3,hA4⟩:=ha.five
 obtain⟨b0,b1,b2,b3,b4,rfl,hB0,hB1,hB2,hB3,hB4⟩:=hb.five
 have HC:Hid (∀W,_):=fun W=>oY (a0+b0) (a1+b1) (a2+b2) (a3+b3) (a4+b4) (by omega) (by omega) (by omega) (by omega) (by omega) W
 have hl:Hid ((oD (a0+b0) (a1+b1) (a2+b2) (a3+b3) (a4+b4)).length=5):=rfl
 rw[show yU [a0,a1,a2,a3,a4] [b0,b1,b2,b3,b4]=oD (a0+b0) (a1+b1) (a2+b2) (a3+b3) (a4+b4)from rfl]
 generalize oD (a0+b0) (a1+b1) (a2+b2) (a3+b3) (a4+b4)=R at*
 have hrow:∀a b c d e:Int,Iv .u64 [a,b,c,d,e]=#[.int .u64 a,.int .u64 b,.int .u64 c,.int .u64 d,.int .u64 e]:=fun _ _ _ _ _=>rfl
 rw[hrow,hrow]
 clear ha hb
 go_enter func123,ntmps123
 go_wp2
 refine wp_loop_rounds 6 ?_
 iterate 5
  rw[rdS];go_wp2
  refine wRh 8 jE (by kernel_rfl) ?_
  simp only[tU,tJ,dJ,dY]
  repeat(go_big_quiet_step (fail))
  refine wqN ?_
  go_wp2
 rw[rdS];go_wp2_with fail
 refine(HC.out _).mono ?_
 rintro e w1 ⟨rfl,hb⟩
 have B1:Hid (Below w.heap.size w w1):=by
  refine Below.trans ?_ (hb.mono (by simp<;>omega))
  repeat(first|exact Below.refl _ _|refine zB ?_ |refine Below.alloc ?_ (by simp<;>omega) _)
 have G1:Hid (w1.heap[w.heap.size+1+1]? =some (.cells (Iv .u64 [0,0,0,0,0]) 187)):=by
  show _=_
  rw[hb.block _ (by simp<;>omega)]
  simp only[heap_drew,cI,wU]
  (repeat(first|rw[if_neg (by omega)]|rw[if_pos (by omega)]));try rfl
 clear hb HC
 go_wp2_with(refine wpPr rfl 187 _ _ rfl (w.heap.size+1+1) (Iv .u64 R) rfl rfl _ _ G1.out (bE hl.out) (NG hl.out) (aG _ _) (fun W hP=>sH ?_))
 refine aH ?_
 have B2:=hP.below _ _ B1.out (by omega)
 have G2:=hP.here
 go_wp2
 exact bodyPost_ret (v:=.agg (Iv .u64 R)) (results_cell_row rfl _ _ _ _ (Iv .u64 R) _ _ rfl G2 underlying187 rfl (bE hl.out)) rfl ⟨rfl,B2⟩
theorem aaH (a b:LI) (ha:kL a) (hb:kL b) (w:World):
 Calls prog 124 #[.agg (Iv .u64 a),.agg (Iv .u64 b)] w fun e w'=>e=.returned (.agg (Iv .u64 (sX a b)))∧Below w.heap.size w w':=by
 obtain⟨a0,a1,a2,a3,a4,rfl,hA0,hA1,hA2,hA3,hA4⟩:=ha.five
 obtain⟨b0,b1,b2,b3,b4,rfl,hB0,hB1,hB2,hB3,hB4⟩:=hb.five
 have HC:Hid (∀W,_):=fun W=>oY (a0+(4503599627370458 - b0)) (a1+(4503599627370494 - b1)) (a2+(4503599627370494 - b2)) (a3+(4503599627370494 - b3)) (a4+(4503599627370494 - b4)) (by omega) (by omega) (by omega) (by omega) (by omega) W
 have hl:Hid ((oD (a0+(4503599627370458 - b0)) (a1+(4503599627370494 - b1)) (a2+(4503599627370494 - b2)) (a3+(4503599627370494 - b3)) (a4+(4503599627370494 - b4))).length=5):=rfl
 rw[show sX [a0,a1,a2,a3,a4] [b0,b1,b2,b3,b4]=oD (a0+(4503599627370458 - b0)) (a1+(4503599627370494 - b1)) (a2+(4503599627370494 - b2)) (a3+(4503599627370494 - b3)) (a4+(4503599627370494 - b4))from rfl]
 generalize oD (a0+(4503599627370458 - b0)) (a1+(4503599627370494 - b1)) (a2+(4503599627370494 - b2)) (a3+(4503599627370494 - b3)) (a4+(4503599627370494 - b4))=R at*
 have hrow:∀a b c d e:Int,Iv .u64 [a,b,c,d,e]=#[.int .u64 a,.int .u64 b,.int .u64 c,.int .u64 d,.int .u64 e]:=fun _ _ _ _ _=>rfl
 rw[hrow,hrow]
 clear ha hb
 go_enter func124,ntmps124
 go_wp2
 refine wp_loop_rounds 5 ?_
 iterate 4
  rw[rdS];go_wp2
  refine wRh 9 jE (by kernel_rfl) ?_
  simp only[tU,tJ,dJ,dY]
  repeat(go_big_quiet_step (fail))
  refine wqN ?_
  go_wp2
 rw[rdS];go_wp2_with fail
 refine(HC.out _).mono ?_
 rintro e w1 ⟨rfl,hb⟩
 have B1:Hid (Below w.heap.size w w1):=by
  refine Below.trans ?_ (hb.mono (by simp<;>omega))
  repeat(first|exact Below.refl _ _|refine zB ?_ |refine Below.alloc ?_ (by simp<;>omega) _)
 have G1:Hid (w1.heap[w.heap.size+1+1]? =some (.cells (Iv .u64 [0,0,0,0,0]) 187)):=by
  show _=_
  rw[hb.block _ (by simp<;>omega)]
  simp only[heap_drew,cI,wU]
  (repeat(first|rw[if_neg (by omega)]|rw[if_pos (by omega)]));try rfl
 clear hb HC
 go_wp2_with(refine wpPr rfl 187 _ _ rfl (w.heap.size+1+1) (Iv .u64 R) rfl rfl _ _ G1.out (bE hl.out) (NG hl.out) (aG _ _) (fun W hP=>sH ?_))
 refine aH ?_
 have B2:=hP.below _ _ B1.out (by omega)
 have G2:=hP.here
 go_wp2
 exact bodyPost_ret (v:=.agg (Iv .u64 R)) (results_cell_row rfl _ _ _ _ (Iv .u64 R) _ _ rfl G2 underlying187 rfl (bE hl.out)) rfl ⟨rfl,B2⟩
theorem aJ {P:Program} {ops:Array Oper} {l:List Oper} {a:Act} {w:World} {Q:Exit→Act→World→Prop} (h:wpList P ops Q l a w):wpList P ops Q l a w:=h
theorem FJ {P:Program} {ops:Array Oper} {rest:List Oper} {d:Option Tmp} {p:Op} {t:TypeId} {s:String} {e:Array Edge} {g:Option (Nat×Bool)} {a:Act} {w:World} {Q:Exit→Act→World→Prop}
 (hw:Region.wanted ⟨d,p,t,s,e,g⟩ (yielded ops a.tmps)=true) (h:wpList P ops Q (⟨d,p,t,s,e,none⟩::rest) a w):wpList P ops Q (⟨d,p,t,s,e,g⟩::rest) a w:=by
 unfold wpList at h⊢
 rw[if_pos hw]
 have h2:Region.wanted ⟨d,p,t,s,e,none⟩ (yielded ops a.tmps)=true:=rfl
 rw[if_pos h2]at h
 exact h
theorem wqLm {P:Program} {ops:Array Oper} {C:World→Prop} {Q:Act→Prop} {a:Act} {op:Oper} {rest:List Oper} (hgd:op.guard=none) (ty:TypeId) (x:Operand) (ho:op.op=.load ty x)
 (b o:Nat) (hx:a.eval x=.pointer (some ⟨b,o,none⟩)) (cs:List Value) (d:TypeDesc) (hg:∀w,C w→w.rangeAt b o cs)
 (hu:P.underlying ty=some d) (hd:d.isRow=true) (hi:(P.info? ty).map (·.size)=some cs.length)
 (h:wpQuiet P ops C Q rest (a.put op.dst (.agg cs.toArray))):wpQuiet P ops C Q (op::rest) a:=by
 refine kJ hgd (v:=.agg cs.toArray) (fun w hw=>?_) h
 have e:(execOp a.eval op).run P w=.ok (.value (.agg cs.toArray)) w:=by
  unfold execOp
  simp only[ho,hx,Instr.loadAt,Instr.sureAddr,Sem.run_bind,Sem.run_pure,Result.andThen_ok,run_loadVar_mid w b o ty cs d (hg w hw) hu hd hi]
 unfold Oper.quietAt
 rw[e]
 exact⟨rfl,rfl⟩
theorem aB {P:Program} {ops:Array Oper} {C:World→Prop} {Q:Act→Prop} {a:Act} {o:Oper} {rest:List Oper} (hgd:o.guard=none) (v:Value) (he:∀w,(execOp a.eval o).run P w=.ok (.value v) w) (h:wpQuiet P ops C Q rest (a.put o.dst v)):wpQuiet P ops C Q (o::rest) a:=by
 refine kJ hgd (v:=v) (fun w hw=>?_) h
 unfold Oper.quietAt
 rw[he w]
 exact⟨rfl,rfl⟩
theorem JN {P:Program} {e:TypeId} (hs:(P.info? e).map (·.size)=some 1) (w:World):(sizeOf e).run P w=.ok 1 w:=by
 obtain⟨i,hi,h1⟩:=Option.map_eq_some_iff.1 hs
 simp[sizeOf,typeInfo,hi,h1]
theorem SA {P:Program} {o:Oper} {ρ:Operand→Value} (t:TypeId) (x y:Operand) (ho:o.op=.slice t x (some y) none none) (g off len cap l:Nat) (hx:ρ x=.slice (some ⟨g,off,none⟩) len cap) (hy:ρ y=.int .i64 l)
 (ht:P.underlying t=some (.slice (P.elem t))) (hs:(P.info? (P.elem t)).map (·.size)=some 1) (h1:l≤len) (h2:l<cap) (w:World):
 (execOp ρ o).run P w=.ok (.value (.slice (some ⟨g,off+l,none⟩) (len - l) (cap - l))) w:=by
 have hadd:(⟨g,off,none⟩:Addr).add (l*1)=⟨g,off+l,none⟩:=by rw[Nat.mul_one];unfold Addr.add;split<;>simp_all
 unfold execOp
 simp only[ho,Option.map_some,Option.map_none,hx,hy,Sem.run_bind,run_sliceAt_slice w t _ _ _ _ ht,run_slice_l w t _ len cap ht .i64 (l:Int) (by omega) (by omega),JN hs,Result.andThen_ok,Int.toNat_natCast,sliced,Sem.run_pure]
 rw[if_neg (by omega),hadd]
theorem adB {P:Program} {o:Oper} {ρ:Operand→Value} (t:TypeId) (x y:Operand) (ho:o.op=.slice t x none (some y) none) (g off len cap h:Nat) (hx:ρ x=.slice (some ⟨g,off,none⟩) len cap) (hy:ρ y=.int .i64 h)
 (ht:P.underlying t=some (.slice (P.elem t))) (hs:(P.info? (P.elem t)).map (·.size)=some 1) (h1:h≤cap) (w:World):
 (execOp ρ o).run P w=.ok (.value (.slice (some ⟨g,off,none⟩) h cap)) w:=by
 have hadd:(⟨g,off,none⟩:Addr).add (0*1)=⟨g,off,none⟩:=by unfold Addr.add;split<;>simp_all
 unfold execOp
 simp only[ho,Option.map_some,Option.map_none,hx,hy,Sem.run_bind,run_sliceAt_slice w t _ _ _ _ ht,run_slice_h w t _ len cap ht .i64 (h:Int) (by omega) (by omega),JN hs,Result.andThen_ok,Int.toNat_natCast,sliced,Sem.run_pure,Nat.sub_zero,Option.map_some,hadd,ite_self]
theorem dL {P:Program} {ops:Array Oper} {C:World→Prop} {Q:Act→Prop} {a:Act} {o:Oper} {rest:List Oper} (hgd:o.guard=none) (v:Value) (he:∀w,C w→(execOp a.eval o).run P w=.ok (.value v) w) (h:wpQuiet P ops C Q rest (a.put o.dst v)):wpQuiet P ops C Q (o::rest) a:=by
 refine kJ hgd (v:=v) (fun w hw=>?_) h
 unfold Oper.quietAt
 rw[he w hw]
 exact⟨rfl,rfl⟩
theorem mF {P:Program} {o:Oper} {ρ:Operand→Value} (t:TypeId) (x:Operand) (ho:o.op=.load t x) (p:Addr) (hx:ρ x=.pointer (some p)) (k:IntKind) (ht:P.underlying t=some (.int k)) (v:Value) (w:World) (hc:w.cell? p=some v):
 (execOp ρ o).run P w=.ok (.value v) w:=by
 unfold execOp
 simp only[ho,hx,Instr.loadAt,Instr.sureAddr,loadVar,isAgg,run_underlying ht,Sem.run_bind,Sem.run_pure,Result.andThen_ok]
 simp[hc]
def yH (a0 a1 a2 a3 a4 b0 b1 b2 b3 b4:Int):Int:=0+a0*b0+a1*(19*b4)+a2*(19*b3)+a3*(19*b2)+a4*(19*b1)
def yJ (a0 a1 a2 a3 a4 b0 b1 b2 b3 b4:Int):Int:=yH a0 a1 a2 a3 a4 b0 b1 b2 b3 b4 / 2251799813685248+a0*b1+a1*b0+a2*(19*b4)+a3*(19*b3)+a4*(19*b2)
def yK (a0 a1 a2 a3 a4 b0 b1 b2 b3 b4:Int):Int:=yJ a0 a1 a2 a3 a4 b0 b1 b2 b3 b4 / 2251799813685248+a0*b2+a1*b1+a2*b0+a3*(19*b4)+a4*(19*b3)
def yL (a0 a1 a2 a3 a4 b0 b1 b2 b3 b4:Int):Int:=yK a0 a1 a2 a3 a4 b0 b1 b2 b3 b4 / 2251799813685248+a0*b3+a1*b2+a2*b1+a3*b0+a4*(19*b4)
def uB (a0 a1 a2 a3 a4 b0 b1 b2 b3 b4:Int):Int:=yL a0 a1 a2 a3 a4 b0 b1 b2 b3 b4 / 2251799813685248+a0*b4+a1*b3+a2*b2+a3*b1+a4*b0
def eM:LI→LI→LI
 | [a0,a1,a2,a3,a4],[b0,b1,b2,b3,b4]=>oD (yH a0 a1 a2 a3 a4 b0 b1 b2 b3 b4%2251799813685248+19*(uB a0 a1 a2 a3 a4 b0 b1 b2 b3 b4 / 2251799813685248)) (yJ a0 a1 a2 a3 a4 b0 b1 b2 b3 b4%2251799813685248) (yK a0 a1 a2 a3 a4 b0 b1 b2 b3 b4%2251799813685248) (yL a0 a1 a2 a3 a4 b0 b1 b2 b3 b4%2251799813685248) (uB a0 a1 a2 a3 a4 b0 b1 b2 b3 b4%2251799813685248)
 | _,_=>[]
theorem aT (x y A B:Int) (hx:0≤x∧x≤A) (hy:0≤y∧y≤B):0≤x*y∧x*y≤A*B:=
 ⟨Int.mul_nonneg hx.1 hy.1,Int.mul_le_mul hx.2 hy.2 hy.1 (Int.le_trans hx.1 hx.2)⟩
theorem YJ (a0 a1 a2 a3 a4 b0 b1 b2 b3 b4:Int) (ha:El a0 a1 a2 a3 a4) (hb:El b0 b1 b2 b3 b4):
 (0≤yH a0 a1 a2 a3 a4 b0 b1 b2 b3 b4∧yH a0 a1 a2 a3 a4 b0 b1 b2 b3 b4<41538374868278621028243970633760768)∧(0≤yJ a0 a1 a2 a3 a4 b0 b1 b2 b3 b4∧yJ a0 a1 a2 a3 a4 b0 b1 b2 b3 b4<41538374868278621028243970633760768)∧(0≤yK a0 a1 a2 a3 a4 b0 b1 b2 b3 b4∧yK a0 a1 a2 a3 a4 b0 b1 b2 b3 b4<41538374868278621028243970633760768)∧(0≤yL a0 a1 a2 a3 a4 b0 b1 b2 b3 b4∧yL a0 a1 a2 a3 a4 b0 b1 b2 b3 b4<41538374868278621028243970633760768)∧(0≤uB a0 a1 a2 a3 a4 b0 b1 b2 b3 b4∧uB a0 a1 a2 a3 a4 b0 b1 b2 b3 b4<81129638414606681695789005144064):=by
 obtain⟨hA0,hA1,hA2,hA3,hA4⟩:=ha
 obtain⟨hB0,hB1,hB2,hB3,hB4⟩:=hb
 have p00:=aT a0 b0 2251799813685311 2251799813685311 (by omega) (by omega)
 have p01:=aT a0 b1 2251799813685311 2251799813685311 (by omega) (by omega)
 have p02:=aT a0 b2 2251799813685311 2251799813685311 (by omega) (by omega)
 have p03:=aT a0 b3 2251799813685311 2251799813685311 (by omega) (by omega)
 have p04:=aT a0 b4 2251799813685311 2251799813685311 (by omega) (by omega)
 have p10:=aT a1 b0 2251799813685311 2251799813685311 (by omega) (by omega)
 have p11:=aT a1 b1 2251799813685311 2251799813685311 (by omega) (by omega)
 have p12:=aT a1 b2 2251799813685311 2251799813685311 (by omega) (by omega)
 have p13:=aT a1 b3 2251799813685311 2251799813685311 (by omega) (by omega)
 have p14:=aT a1 b4 2251799813685311 2251799813685311 (by omega) (by omega)
 have p20:=aT a2 b0 2251799813685311 2251799813685311 (by omega) (by omega)
 have p21:=aT a2 b1 2251799813685311 2251799813685311 (by omega) (by omega)
 have p22:=aT a2 b2 2251799813685311 2251799813685311 (by omega) (by omega)
 have p23:=aT a2 b3 2251799813685311 2251799813685311 (by omega) (by omega)
 have p24:=aT a2 b4 2251799813685311 2251799813685311 (by omega) (by omega)
 have p30:=aT a3 b0 2251799813685311 2251799813685311 (by omega) (by omega)
 have p31:=aT a3 b1 2251799813685311 2251799813685311 (by omega) (by omega)
 have p32:=aT a3 b2 2251799813685311 2251799813685311 (by omega) (by omega)
 have p33:=aT a3 b3 2251799813685311 2251799813685311 (by omega) (by omega)
 have p34:=aT a3 b4 2251799813685311 2251799813685311 (by omega) (by omega)
 have p40:=aT a4 b0 2251799813685311 2251799813685311 (by omega) (by omega)
 have p41:=aT a4 b1 2251799813685311 2251799813685311 (by omega) (by omega)
 have p42:=aT a4 b2 2251799813685311 2251799813685311 (by omega) (by omega)
 have p43:=aT a4 b3 2251799813685311 2251799813685311 (by omega) (by omega)
 have p44:=aT a4 b4 2251799813685311 2251799813685311 (by omega) (by omega)
 unfold uB yL yK yJ yH
 simp only[Int.mul_left_comm _ 19 _]
 generalize a0*b0=q00 at*
 generalize a0*b1=q01 at*
 generalize a0*b2=q02 at*
 generalize a0*b3=q03 at*
 generalize a0*b4=q04 at*
 generalize a1*b0=q10 at*
 generalize a1*b1=q11 at*
 generalize a1*b2=q12 at*
 generalize a1*b3=q13 at*
 generalize a1*b4=q14 at*
 generalize a2*b0=q20 at*
 generalize a2*b1=q21 at*
 generalize a2*b2=q22 at*
 generalize a2*b3=q23 at*
 generalize a2*b4=q24 at*
 generalize a3*b0=q30 at*
 generalize a3*b1=q31 at*
 generalize a3*b2=q32 at*
 generalize a3*b3=q33 at*
 generalize a3*b4=q34 at*
 generalize a4*b0=q40 at*
 generalize a4*b1=q41 at*
 generalize a4*b2=q42 at*
 generalize a4*b3=q43 at*
 generalize a4*b4=q44 at*
 refine⟨?_,?_,?_,?_,?_⟩<;>omega
theorem SQ (a0 a1 a2 a3 a4 b0 b1 b2 b3 b4:Int):nS a0 a1 a2 a3 a4*nS b0 b1 b2 b3 b4=1*(a0*b0)+2251799813685248*(a0*b1)+5070602400912917605986812821504*(a0*b2)+11417981541647679048466287755595961091061972992*(a0*b3)+25711008708143844408671393477458601640355247900524685364822016*(a0*b4)+2251799813685248*(a1*b0)+5070602400912917605986812821504*(a1*b1)+11417981541647679048466287755595961091061972992*(a1*b2)+25711008708143844408671393477458601640355247900524685364822016*(a1*b3)+57896044618658097711785492504343953926634992332820282019728792003956564819968*(a1*b4)+5070602400912917605986812821504*(a2*b0)+11417981541647679048466287755595961091061972992*(a2*b1)+25711008708143844408671393477458601640355247900524685364822016*(a2*b2)+57896044618658097711785492504343953926634992332820282019728792003956564819968*(a2*b3)+130370302485407109521180524058200202307293977194619920040712988758680403184853549195737432064*(a2*b4)+11417981541647679048466287755595961091061972992*(a3*b0)+25711008708143844408671393477458601640355247900524685364822016*(a3*b1)+57896044618658097711785492504343953926634992332820282019728792003956564819968*(a3*b2)+130370302485407109521180524058200202307293977194619920040712988758680403184853549195737432064*(a3*b3)+293567822846729153486185074598667128421960318613539983838411371441526128139326055432962374798096087878991872*(a3*b4)+25711008708143844408671393477458601640355247900524685364822016*(a4*b0)+57896044618658097711785492504343953926634992332820282019728792003956564819968*(a4*b1)+130370302485407109521180524058200202307293977194619920040712988758680403184853549195737432064*(a4*b2)+293567822846729153486185074598667128421960318613539983838411371441526128139326055432962374798096087878991872*(a4*b3)+661055968790248598951915308032771039828404682964281219284648795274405791236311345825189210439715284847591212025023358304256*(a4*b4):=by
 unfold nS
 grind
theorem xZ (a b:LI) (ha:kL a) (hb:kL b):bT (eM a b) (vL a*vL b):=by
 obtain⟨a0,a1,a2,a3,a4,rfl,hA⟩:=ha.five
 obtain⟨b0,b1,b2,b3,b4,rfl,hB⟩:=hb.five
 obtain⟨h0,h1,h2,h3,h4⟩:=YJ a0 a1 a2 a3 a4 b0 b1 b2 b3 b4 hA hB
 obtain⟨k1,q,k2⟩:=AG (yH a0 a1 a2 a3 a4 b0 b1 b2 b3 b4%2251799813685248+19*(uB a0 a1 a2 a3 a4 b0 b1 b2 b3 b4 / 2251799813685248)) (yJ a0 a1 a2 a3 a4 b0 b1 b2 b3 b4%2251799813685248) (yK a0 a1 a2 a3 a4 b0 b1 b2 b3 b4%2251799813685248) (yL a0 a1 a2 a3 a4 b0 b1 b2 b3 b4%2251799813685248) (uB a0 a1 a2 a3 a4 b0 b1 b2 b3 b4%2251799813685248) (by omega) (by omega) (by omega) (by omega) (by omega)
 refine⟨k1,q+uB a0 a1 a2 a3 a4 b0 b1 b2 b3 b4 / 2251799813685248+(1*(a1*b4)+1*(a2*b3)+2251799813685248*(a2*b4)+1*(a3*b2)+2251799813685248*(a3*b3)+5070602400912917605986812821504*(a3*b4)+1*(a4*b1)+2251799813685248*(a4*b2)+5070602400912917605986812821504*(a4*b3)+11417981541647679048466287755595961091061972992*(a4*b4)),?_⟩
 show vL (oD _ _ _ _ _)=nS _ _ _ _ _*nS _ _ _ _ _ - _
 rw[k2,SQ]
 have e0:yH a0 a1 a2 a3 a4 b0 b1 b2 b3 b4=0+a0*b0+a1*(19*b4)+a2*(19*b3)+a3*(19*b2)+a4*(19*b1):=rfl
 have e1:yJ a0 a1 a2 a3 a4 b0 b1 b2 b3 b4=yH a0 a1 a2 a3 a4 b0 b1 b2 b3 b4 / 2251799813685248+a0*b1+a1*b0+a2*(19*b4)+a3*(19*b3)+a4*(19*b2):=rfl
 have e2:yK a0 a1 a2 a3 a4 b0 b1 b2 b3 b4=yJ a0 a1 a2 a3 a4 b0 b1 b2 b3 b4 / 2251799813685248+a0*b2+a1*b1+a2*b0+a3*(19*b4)+a4*(19*b3):=rfl
 have e3:yL a0 a1 a2 a3 a4 b0 b1 b2 b3 b4=yK a0 a1 a2 a3 a4 b0 b1 b2 b3 b4 / 2251799813685248+a0*b3+a1*b2+a2*b1+a3*b0+a4*(19*b4):=rfl
 have e4:uB a0 a1 a2 a3 a4 b0 b1 b2 b3 b4=yL a0 a1 a2 a3 a4 b0 b1 b2 b3 b4 / 2251799813685248+a0*b4+a1*b3+a2*b2+a3*b1+a4*b0:=rfl
 generalize yH a0 a1 a2 a3 a4 b0 b1 b2 b3 b4=s0 at*
 generalize yJ a0 a1 a2 a3 a4 b0 b1 b2 b3 b4=s1 at*
 generalize yK a0 a1 a2 a3 a4 b0 b1 b2 b3 b4=s2 at*
 generalize yL a0 a1 a2 a3 a4 b0 b1 b2 b3 b4=s3 at*
 generalize uB a0 a1 a2 a3 a4 b0 b1 b2 b3 b4=s4 at*
 simp only[Int.mul_left_comm _ 19 _]at e0 e1 e2 e3 e4
 generalize a0*b0=q00 at*
 generalize a0*b1=q01 at*
 generalize a0*b2=q02 at*
 generalize a0*b3=q03 at*
 generalize a0*b4=q04 at*
 generalize a1*b0=q10 at*
 generalize a1*b1=q11 at*
 generalize a1*b2=q12 at*
 generalize a1*b3=q13 at*
 generalize a1*b4=q14 at*
 generalize a2*b0=q20 at*
 generalize a2*b1=q21 at*
 generalize a2*b2=q22 at*
 generalize a2*b3=q23 at*
 generalize a2*b4=q24 at*
 generalize a3*b0=q30 at*
 generalize a3*b1=q31 at*
 generalize a3*b2=q32 at*
 generalize a3*b3=q33 at*
 generalize a3*b4=q34 at*
 generalize a4*b0=q40 at*
 generalize a4*b1=q41 at*
 generalize a4*b2=q42 at*
 generalize a4*b3=q43 at*
 generalize a4*b4=q44 at*
 unfold nS pF
 simp only[Int.add_mul]
 omega
theorem adR (c:Int) (hc:0≤c) (hc2:c<18446744073709551616):pJ c=#[.int .u64 0,.int .u64 c]:=by
 unfold pJ
 rw[show c / 18446744073709551616=0 by omega,show c%18446744073709551616=c by omega]
end Go.Proofs.YtmjccemdldidaaaGreatDoor
