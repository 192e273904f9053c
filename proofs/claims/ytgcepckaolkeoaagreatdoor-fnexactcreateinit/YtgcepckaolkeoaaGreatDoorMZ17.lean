import Derived.Test.YtgcepckaolkeoaaGreatDoorMZ16
namespace Go.Proofs.YtgcepckaolkeoaaGreatDoor
open Go.RowKit
open Go.Proofs.Tryz
open List renaming replicate → rQ
open Nat renaming lt_of_lt_of_le → nJ
set_option linter.unusedVariables false
def aT:List Int→Int
 | []=>0
 | x::r=>x+256*aT r
def cV (zs:List Int):List Int:=([aF zs 0,aF zs 1,aF zs 2,aF zs 3,aF zs 4]).set (zs.length / 4) (bits .or .u32 (aF zs (zs.length / 4)) (2^(8*(zs.length%4))))
def gV (zs:List Int):Prop:=
 ∃v0 v1 v2 v3 v4:Int,cV zs=[v0,v1,v2,v3,v4]∧0≤v0∧v0<4294967296∧0≤v1∧v1<4294967296∧0≤v2∧v2<4294967296∧0≤v3∧v3<4294967296∧0≤v4∧v4≤1∧
  v0+4294967296*v1+18446744073709551616*v2+79228162514264337593543950336*v3+340282366920938463463374607431768211456*v4=aT zs+256^zs.length
theorem aa1 (z0:Int) (h0:0≤z0∧z0≤255):gV [z0]:=by
 have e:bits .or .u32 (z0) 256=(z0)+256:=pW 8 _ _ (by decide) (by omega) (by decide) (by omega) (by omega) (by omega)
 refine⟨(z0)+256,0,0,0,0,?_,?_⟩
 ·simp[cV,aF]
  rw[←e]
 ·simp only[aT,List.length_cons,List.length_nil]
  omega
theorem aa2 (z0 z1:Int) (h0:0≤z0∧z0≤255) (h1:0≤z1∧z1≤255):gV [z0,z1]:=by
 have e:bits .or .u32 (z0+256*z1) 65536=(z0+256*z1)+65536:=pW 16 _ _ (by decide) (by omega) (by decide) (by omega) (by omega) (by omega)
 refine⟨(z0+256*z1)+65536,0,0,0,0,?_,?_⟩
 ·simp[cV,aF]
  rw[←e]
 ·simp only[aT,List.length_cons,List.length_nil]
  omega
theorem aa3 (z0 z1 z2:Int) (h0:0≤z0∧z0≤255) (h1:0≤z1∧z1≤255) (h2:0≤z2∧z2≤255):gV [z0,z1,z2]:=by
 have e:bits .or .u32 (z0+256*z1+65536*z2) 16777216=(z0+256*z1+65536*z2)+16777216:=pW 24 _ _ (by decide) (by omega) (by decide) (by omega) (by omega) (by omega)
 refine⟨(z0+256*z1+65536*z2)+16777216,0,0,0,0,?_,?_⟩
 ·simp[cV,aF]
  rw[←e]
 ·simp only[aT,List.length_cons,List.length_nil]
  omega
theorem aa4 (z0 z1 z2 z3:Int) (h0:0≤z0∧z0≤255) (h1:0≤z1∧z1≤255) (h2:0≤z2∧z2≤255) (h3:0≤z3∧z3≤255):gV [z0,z1,z2,z3]:=by
 have e:bits .or .u32 (0) 1=(0)+1:=pW 0 _ _ (by decide) (by omega) (by decide) (by omega) (by omega) (by omega)
 refine⟨z0+256*z1+65536*z2+16777216*z3,1,0,0,0,?_,?_⟩
 ·simp[cV,aF]
  exact e.trans (by omega)
 ·simp only[aT,List.length_cons,List.length_nil]
  omega
theorem aa5 (z0 z1 z2 z3 z4:Int) (h0:0≤z0∧z0≤255) (h1:0≤z1∧z1≤255) (h2:0≤z2∧z2≤255) (h3:0≤z3∧z3≤255) (h4:0≤z4∧z4≤255):gV [z0,z1,z2,z3,z4]:=by
 have e:bits .or .u32 (z4) 256=(z4)+256:=pW 8 _ _ (by decide) (by omega) (by decide) (by omega) (by omega) (by omega)
 refine⟨z0+256*z1+65536*z2+16777216*z3,(z4)+256,0,0,0,?_,?_⟩
 ·simp[cV,aF]
  rw[←e]
 ·simp only[aT,List.length_cons,List.length_nil]
  omega
theorem aa6 (z0 z1 z2 z3 z4 z5:Int) (h0:0≤z0∧z0≤255) (h1:0≤z1∧z1≤255) (h2:0≤z2∧z2≤255) (h3:0≤z3∧z3≤255) (h4:0≤z4∧z4≤255) (h5:0≤z5∧z5≤255):gV [z0,z1,z2,z3,z4,z5]:=by
 have e:bits .or .u32 (z4+256*z5) 65536=(z4+256*z5)+65536:=pW 16 _ _ (by decide) (by omega) (by decide) (by omega) (by omega) (by omega)
 refine⟨z0+256*z1+65536*z2+16777216*z3,(z4+256*z5)+65536,0,0,0,?_,?_⟩
 ·simp[cV,aF]
  rw[←e]
 ·simp only[aT,List.length_cons,List.length_nil]
  omega
theorem aa7 (z0 z1 z2 z3 z4 z5 z6:Int) (h0:0≤z0∧z0≤255) (h1:0≤z1∧z1≤255) (h2:0≤z2∧z2≤255) (h3:0≤z3∧z3≤255) (h4:0≤z4∧z4≤255) (h5:0≤z5∧z5≤255) (h6:0≤z6∧z6≤255):gV [z0,z1,z2,z3,z4,z5,z6]:=by
 have e:bits .or .u32 (z4+256*z5+65536*z6) 16777216=(z4+256*z5+65536*z6)+16777216:=pW 24 _ _ (by decide) (by omega) (by decide) (by omega) (by omega) (by omega)
 refine⟨z0+256*z1+65536*z2+16777216*z3,(z4+256*z5+65536*z6)+16777216,0,0,0,?_,?_⟩
 ·simp[cV,aF]
  rw[←e]
 ·simp only[aT,List.length_cons,List.length_nil]
  omega
theorem aa8 (z0 z1 z2 z3 z4 z5 z6 z7:Int) (h0:0≤z0∧z0≤255) (h1:0≤z1∧z1≤255) (h2:0≤z2∧z2≤255) (h3:0≤z3∧z3≤255) (h4:0≤z4∧z4≤255) (h5:0≤z5∧z5≤255) (h6:0≤z6∧z6≤255) (h7:0≤z7∧z7≤255):gV [z0,z1,z2,z3,z4,z5,z6,z7]:=by
 have e:bits .or .u32 (0) 1=(0)+1:=pW 0 _ _ (by decide) (by omega) (by decide) (by omega) (by omega) (by omega)
 refine⟨z0+256*z1+65536*z2+16777216*z3,z4+256*z5+65536*z6+16777216*z7,1,0,0,?_,?_⟩
 ·simp[cV,aF]
  exact e.trans (by omega)
 ·simp only[aT,List.length_cons,List.length_nil]
  omega
theorem aa9 (z0 z1 z2 z3 z4 z5 z6 z7 z8:Int) (h0:0≤z0∧z0≤255) (h1:0≤z1∧z1≤255) (h2:0≤z2∧z2≤255) (h3:0≤z3∧z3≤255) (h4:0≤z4∧z4≤255) (h5:0≤z5∧z5≤255) (h6:0≤z6∧z6≤255) (h7:0≤z7∧z7≤255) (h8:0≤z8∧z8≤255):gV [z0,z1,z2,z3,z4,z5,z6,z7,z8]:=by
 have e:bits .or .u32 (z8) 256=(z8)+256:=pW 8 _ _ (by decide) (by omega) (by decide) (by omega) (by omega) (by omega)
 refine⟨z0+256*z1+65536*z2+16777216*z3,z4+256*z5+65536*z6+16777216*z7,(z8)+256,0,0,?_,?_⟩
 ·simp[cV,aF]
  rw[←e]
 ·simp only[aT,List.length_cons,List.length_nil]
  omega
theorem X9 (z0 z1 z2 z3 z4 z5 z6 z7 z8 z9:Int) (h0:0≤z0∧z0≤255) (h1:0≤z1∧z1≤255) (h2:0≤z2∧z2≤255) (h3:0≤z3∧z3≤255) (h4:0≤z4∧z4≤255) (h5:0≤z5∧z5≤255) (h6:0≤z6∧z6≤255) (h7:0≤z7∧z7≤255) (h8:0≤z8∧z8≤255) (h9:0≤z9∧z9≤255):gV [z0,z1,z2,z3,z4,z5,z6,z7,z8,z9]:=by
 have e:bits .or .u32 (z8+256*z9) 65536=(z8+256*z9)+65536:=pW 16 _ _ (by decide) (by omega) (by decide) (by omega) (by omega) (by omega)
 refine⟨z0+256*z1+65536*z2+16777216*z3,z4+256*z5+65536*z6+16777216*z7,(z8+256*z9)+65536,0,0,?_,?_⟩
 ·simp[cV,aF]
  rw[←e]
 ·simp only[aT,List.length_cons,List.length_nil]
  omega
theorem YA (z0 z1 z2 z3 z4 z5 z6 z7 z8 z9 z10:Int) (h0:0≤z0∧z0≤255) (h1:0≤z1∧z1≤255) (h2:0≤z2∧z2≤255) (h3:0≤z3∧z3≤255) (h4:0≤z4∧z4≤255) (h5:0≤z5∧z5≤255) (h6:0≤z6∧z6≤255) (h7:0≤z7∧z7≤255) (h8:0≤z8∧z8≤255) (h9:0≤z9∧z9≤255) (h10:0≤z10∧z10≤255):gV [z0,z1,z2,z3,z4,z5,z6,z7,z8,z9,z10]:=by
 have e:bits .or .u32 (z8+256*z9+65536*z10) 16777216=(z8+256*z9+65536*z10)+16777216:=pW 24 _ _ (by decide) (by omega) (by decide) (by omega) (by omega) (by omega)
 refine⟨z0+256*z1+65536*z2+16777216*z3,z4+256*z5+65536*z6+16777216*z7,(z8+256*z9+65536*z10)+16777216,0,0,?_,?_⟩
 ·simp[cV,aF]
  rw[←e]
 ·simp only[aT,List.length_cons,List.length_nil]
  omega
theorem YC (z0 z1 z2 z3 z4 z5 z6 z7 z8 z9 z10 z11:Int) (h0:0≤z0∧z0≤255) (h1:0≤z1∧z1≤255) (h2:0≤z2∧z2≤255) (h3:0≤z3∧z3≤255) (h4:0≤z4∧z4≤255) (h5:0≤z5∧z5≤255) (h6:0≤z6∧z6≤255) (h7:0≤z7∧z7≤255) (h8:0≤z8∧z8≤255) (h9:0≤z9∧z9≤255) (h10:0≤z10∧z10≤255) (h11:0≤z11∧z11≤255):gV [z0,z1,z2,z3,z4,z5,z6,z7,z8,z9,z10,z11]:=by
 have e:bits .or .u32 (0) 1=(0)+1:=pW 0 _ _ (by decide) (by omega) (by decide) (by omega) (by omega) (by omega)
 refine⟨z0+256*z1+65536*z2+16777216*z3,z4+256*z5+65536*z6+16777216*z7,z8+256*z9+65536*z10+16777216*z11,1,0,?_,?_⟩
 ·simp[cV,aF]
  exact e.trans (by omega)
 ·simp only[aT,List.length_cons,List.length_nil]
  omega
theorem YD (z0 z1 z2 z3 z4 z5 z6 z7 z8 z9 z10 z11 z12:Int) (h0:0≤z0∧z0≤255) (h1:0≤z1∧z1≤255) (h2:0≤z2∧z2≤255) (h3:0≤z3∧z3≤255) (h4:0≤z4∧z4≤255) (h5:0≤z5∧z5≤255) (h6:0≤z6∧z6≤255) (h7:0≤z7∧z7≤255) (h8:0≤z8∧z8≤255) (h9:0≤z9∧z9≤255) (h10:0≤z10∧z10≤255) (h11:0≤z11∧z11≤255) (h12:0≤z12∧z12≤255):gV [z0,z1,z2,z3,z4,z5,z6,z7,z8,z9,z10,z11,z12]:=by
 have e:bits .or .u32 (z12) 256=(z12)+256:=pW 8 _ _ (by decide) (by omega) (by decide) (by omega) (by omega) (by omega)
 refine⟨z0+256*z1+65536*z2+16777216*z3,z4+256*z5+65536*z6+16777216*z7,z8+256*z9+65536*z10+16777216*z11,(z12)+256,0,?_,?_⟩
 ·simp[cV,aF]
  rw[←e]
 ·simp only[aT,List.length_cons,List.length_nil]
  omega
theorem YE (z0 z1 z2 z3 z4 z5 z6 z7 z8 z9 z10 z11 z12 z13:Int) (h0:0≤z0∧z0≤255) (h1:0≤z1∧z1≤255) (h2:0≤z2∧z2≤255) (h3:0≤z3∧z3≤255) (h4:0≤z4∧z4≤255) (h5:0≤z5∧z5≤255) (h6:0≤z6∧z6≤255) (h7:0≤z7∧z7≤255) (h8:0≤z8∧z8≤255) (h9:0≤z9∧z9≤255) (h10:0≤z10∧z10≤255) (h11:0≤z11∧z11≤255) (h12:0≤z12∧z12≤255) (h13:0≤z13∧z13≤255):gV [z0,z1,z2,z3,z4,z5,z6,z7,z8,z9,z10,z11,z12,z13]:=by
 have e:bits .or .u32 (z12+256*z13) 65536=(z12+256*z13)+65536:=pW 16 _ _ (by decide) (by omega) (by decide) (by omega) (by omega) (by omega)
 refine⟨z0+256*z1+65536*z2+16777216*z3,z4+256*z5+65536*z6+16777216*z7,z8+256*z9+65536*z10+16777216*z11,(z12+256*z13)+65536,0,?_,?_⟩
 ·simp[cV,aF]
  rw[←e]
 ·simp only[aT,List.length_cons,List.length_nil]
  omega
theorem YF (z0 z1 z2 z3 z4 z5 z6 z7 z8 z9 z10 z11 z12 z13 z14:Int) (h0:0≤z0∧z0≤255) (h1:0≤z1∧z1≤255) (h2:0≤z2∧z2≤255) (h3:0≤z3∧z3≤255) (h4:0≤z4∧z4≤255) (h5:0≤z5∧z5≤255) (h6:0≤z6∧z6≤255) (h7:0≤z7∧z7≤255) (h8:0≤z8∧z8≤255) (h9:0≤z9∧z9≤255) (h10:0≤z10∧z10≤255) (h11:0≤z11∧z11≤255) (h12:0≤z12∧z12≤255) (h13:0≤z13∧z13≤255) (h14:0≤z14∧z14≤255):gV [z0,z1,z2,z3,z4,z5,z6,z7,z8,z9,z10,z11,z12,z13,z14]:=by
 have e:bits .or .u32 (z12+256*z13+65536*z14) 16777216=(z12+256*z13+65536*z14)+16777216:=pW 24 _ _ (by decide) (by omega) (by decide) (by omega) (by omega) (by omega)
 refine⟨z0+256*z1+65536*z2+16777216*z3,z4+256*z5+65536*z6+16777216*z7,z8+256*z9+65536*z10+16777216*z11,(z12+256*z13+65536*z14)+16777216,0,?_,?_⟩
 ·simp[cV,aF]
  rw[←e]
 ·simp only[aT,List.length_cons,List.length_nil]
  omega
theorem YG (z0 z1 z2 z3 z4 z5 z6 z7 z8 z9 z10 z11 z12 z13 z14 z15:Int) (h0:0≤z0∧z0≤255) (h1:0≤z1∧z1≤255) (h2:0≤z2∧z2≤255) (h3:0≤z3∧z3≤255) (h4:0≤z4∧z4≤255) (h5:0≤z5∧z5≤255) (h6:0≤z6∧z6≤255) (h7:0≤z7∧z7≤255) (h8:0≤z8∧z8≤255) (h9:0≤z9∧z9≤255) (h10:0≤z10∧z10≤255) (h11:0≤z11∧z11≤255) (h12:0≤z12∧z12≤255) (h13:0≤z13∧z13≤255) (h14:0≤z14∧z14≤255) (h15:0≤z15∧z15≤255):gV [z0,z1,z2,z3,z4,z5,z6,z7,z8,z9,z10,z11,z12,z13,z14,z15]:=by
 have e:bits .or .u32 (0) 1=(0)+1:=pW 0 _ _ (by decide) (by omega) (by decide) (by omega) (by omega) (by omega)
 refine⟨z0+256*z1+65536*z2+16777216*z3,z4+256*z5+65536*z6+16777216*z7,z8+256*z9+65536*z10+16777216*z11,z12+256*z13+65536*z14+16777216*z15,1,?_,?_⟩
 ·simp[cV,aF]
  exact e.trans (by omega)
 ·simp only[aT,List.length_cons,List.length_nil]
  omega
theorem VC (zs:List Int) (h:aE zs) (h1:1≤zs.length) (h16:zs.length≤16):gV zs:=by
 have b0:=h 0
 have b1:=h 1
 have b2:=h 2
 have b3:=h 3
 have b4:=h 4
 have b5:=h 5
 have b6:=h 6
 have b7:=h 7
 have b8:=h 8
 have b9:=h 9
 have b10:=h 10
 have b11:=h 11
 have b12:=h 12
 have b13:=h 13
 have b14:=h 14
 have b15:=h 15
 match zs,h1,h16 with
 | [z0],_,_=>exact aa1 z0 b0
 | [z0,z1],_,_=>exact aa2 z0 z1 b0 b1
 | [z0,z1,z2],_,_=>exact aa3 z0 z1 z2 b0 b1 b2
 | [z0,z1,z2,z3],_,_=>exact aa4 z0 z1 z2 z3 b0 b1 b2 b3
 | [z0,z1,z2,z3,z4],_,_=>exact aa5 z0 z1 z2 z3 z4 b0 b1 b2 b3 b4
 | [z0,z1,z2,z3,z4,z5],_,_=>exact aa6 z0 z1 z2 z3 z4 z5 b0 b1 b2 b3 b4 b5
 | [z0,z1,z2,z3,z4,z5,z6],_,_=>exact aa7 z0 z1 z2 z3 z4 z5 z6 b0 b1 b2 b3 b4 b5 b6
 | [z0,z1,z2,z3,z4,z5,z6,z7],_,_=>exact aa8 z0 z1 z2 z3 z4 z5 z6 z7 b0 b1 b2 b3 b4 b5 b6 b7
 | [z0,z1,z2,z3,z4,z5,z6,z7,z8],_,_=>exact aa9 z0 z1 z2 z3 z4 z5 z6 z7 z8 b0 b1 b2 b3 b4 b5 b6 b7 b8
 | [z0,z1,z2,z3,z4,z5,z6,z7,z8,z9],_,_=>exact X9 z0 z1 z2 z3 z4 z5 z6 z7 z8 z9 b0 b1 b2 b3 b4 b5 b6 b7 b8 b9
 | [z0,z1,z2,z3,z4,z5,z6,z7,z8,z9,z10],_,_=>exact YA z0 z1 z2 z3 z4 z5 z6 z7 z8 z9 z10 b0 b1 b2 b3 b4 b5 b6 b7 b8 b9 b10
 | [z0,z1,z2,z3,z4,z5,z6,z7,z8,z9,z10,z11],_,_=>exact YC z0 z1 z2 z3 z4 z5 z6 z7 z8 z9 z10 z11 b0 b1 b2 b3 b4 b5 b6 b7 b8 b9 b10 b11
 | [z0,z1,z2,z3,z4,z5,z6,z7,z8,z9,z10,z11,z12],_,_=>exact YD z0 z1 z2 z3 z4 z5 z6 z7 z8 z9 z10 z11 z12 b0 b1 b2 b3 b4 b5 b6 b7 b8 b9 b10 b11 b12
 | [z0,z1,z2,z3,z4,z5,z6,z7,z8,z9,z10,z11,z12,z13],_,_=>exact YE z0 z1 z2 z3 z4 z5 z6 z7 z8 z9 z10 z11 z12 z13 b0 b1 b2 b3 b4 b5 b6 b7 b8 b9 b10 b11 b12 b13
 | [z0,z1,z2,z3,z4,z5,z6,z7,z8,z9,z10,z11,z12,z13,z14],_,_=>exact YF z0 z1 z2 z3 z4 z5 z6 z7 z8 z9 z10 z11 z12 z13 z14 b0 b1 b2 b3 b4 b5 b6 b7 b8 b9 b10 b11 b12 b13 b14
 | [z0,z1,z2,z3,z4,z5,z6,z7,z8,z9,z10,z11,z12,z13,z14,z15],_,_=>exact YG z0 z1 z2 z3 z4 z5 z6 z7 z8 z9 z10 z11 z12 z13 z14 z15 b0 b1 b2 b3 b4 b5 b6 b7 b8 b9 b10 b11 b12 b13 b14 b15
 | _::_::_::_::_::_::_::_::_::_::_::_::_::_::_::_::_::_,_,h16=>simp at h16
theorem iJ (c d a b e:Int) (h:c*d=e):(c*a)*(d*b)=e*(a*b):=by rw[←h,Int.mul_assoc,Int.mul_left_comm a d b,←Int.mul_assoc]
theorem oO (d a b:Int):a*(d*b)=d*(a*b):=Int.mul_left_comm a d b
theorem m9 (c a b:Int):(c*a)*b=c*(a*b):=Int.mul_assoc c a b
set_option maxHeartbeats 1000000 in
theorem OR (a0 a1 a2 a3 a4 b0 b1 b2 b3 b4:Int):V5 a0 a1 a2 a3 a4*V5 b0 b1 b2 b3 b4=a0*b0+67108864*(a1*b0)+4503599627370496*(a2*b0)+302231454903657293676544*(a3*b0)+20282409603651670423947251286016*(a4*b0)+67108864*(a0*b1)+4503599627370496*(a1*b1)+302231454903657293676544*(a2*b1)+20282409603651670423947251286016*(a3*b1)+1361129467683753853853498429727072845824*(a4*b1)+4503599627370496*(a0*b2)+302231454903657293676544*(a1*b2)+20282409603651670423947251286016*(a2*b2)+1361129467683753853853498429727072845824*(a3*b2)+91343852333181432387730302044767688728495783936*(a4*b2)+302231454903657293676544*(a0*b3)+20282409603651670423947251286016*(a1*b3)+1361129467683753853853498429727072845824*(a2*b3)+91343852333181432387730302044767688728495783936*(a3*b3)+6129982163463555433433388108601236734474956488734408704*(a4*b3)+20282409603651670423947251286016*(a0*b4)+1361129467683753853853498429727072845824*(a1*b4)+91343852333181432387730302044767688728495783936*(a2*b4)+6129982163463555433433388108601236734474956488734408704*(a3*b4)+411376139330301510538742295639337626245683966408394965837152256*(a4*b4):=by
 have e01:(a0)*(67108864*b1)=67108864*(a0*b1):=oO 67108864 a0 b1
 have e02:(a0)*(4503599627370496*b2)=4503599627370496*(a0*b2):=oO 4503599627370496 a0 b2
 have e03:(a0)*(302231454903657293676544*b3)=302231454903657293676544*(a0*b3):=oO 302231454903657293676544 a0 b3
 have e04:(a0)*(20282409603651670423947251286016*b4)=20282409603651670423947251286016*(a0*b4):=oO 20282409603651670423947251286016 a0 b4
 have e10:(67108864*a1)*(b0)=67108864*(a1*b0):=m9 67108864 a1 b0
 have e11:(67108864*a1)*(67108864*b1)=4503599627370496*(a1*b1):=iJ 67108864 67108864 a1 b1 4503599627370496 (by decide)
 have e12:(67108864*a1)*(4503599627370496*b2)=302231454903657293676544*(a1*b2):=iJ 67108864 4503599627370496 a1 b2 302231454903657293676544 (by decide)
 have e13:(67108864*a1)*(302231454903657293676544*b3)=20282409603651670423947251286016*(a1*b3):=iJ 67108864 302231454903657293676544 a1 b3 20282409603651670423947251286016 (by decide)
 have e14:(67108864*a1)*(20282409603651670423947251286016*b4)=1361129467683753853853498429727072845824*(a1*b4):=iJ 67108864 20282409603651670423947251286016 a1 b4 1361129467683753853853498429727072845824 (by decide)
 have e20:(4503599627370496*a2)*(b0)=4503599627370496*(a2*b0):=m9 4503599627370496 a2 b0
 have e21:(4503599627370496*a2)*(67108864*b1)=302231454903657293676544*(a2*b1):=iJ 4503599627370496 67108864 a2 b1 302231454903657293676544 (by decide)
 have e22:(4503599627370496*a2)*(4503599627370496*b2)=20282409603651670423947251286016*(a2*b2):=iJ 4503599627370496 4503599627370496 a2 b2 20282409603651670423947251286016 (by decide)
 have e23:(4503599627370496*a2)*(302231454903657293676544*b3)=1361129467683753853853498429727072845824*(a2*b3):=iJ 4503599627370496 302231454903657293676544 a2 b3 1361129467683753853853498429727072845824 (by decide)
 have e24:(4503599627370496*a2)*(20282409603651670423947251286016*b4)=91343852333181432387730302044767688728495783936*(a2*b4):=iJ 4503599627370496 20282409603651670423947251286016 a2 b4 91343852333181432387730302044767688728495783936 (by decide)
 have e30:(302231454903657293676544*a3)*(b0)=302231454903657293676544*(a3*b0):=m9 302231454903657293676544 a3 b0
 have e31:(302231454903657293676544*a3)*(67108864*b1)=20282409603651670423947251286016*(a3*b1):=iJ 302231454903657293676544 67108864 a3 b1 20282409603651670423947251286016 (by decide)
 have e32:(302231454903657293676544*a3)*(4503599627370496*b2)=1361129467683753853853498429727072845824*(a3*b2):=iJ 302231454903657293676544 4503599627370496 a3 b2 1361129467683753853853498429727072845824 (by decide)
 have e33:(302231454903657293676544*a3)*(302231454903657293676544*b3)=91343852333181432387730302044767688728495783936*(a3*b3):=iJ 302231454903657293676544 302231454903657293676544 a3 b3 91343852333181432387730302044767688728495783936 (by decide)
 have e34:(302231454903657293676544*a3)*(20282409603651670423947251286016*b4)=6129982163463555433433388108601236734474956488734408704*(a3*b4):=iJ 302231454903657293676544 20282409603651670423947251286016 a3 b4 6129982163463555433433388108601236734474956488734408704 (by decide)
 have e40:(20282409603651670423947251286016*a4)*(b0)=20282409603651670423947251286016*(a4*b0):=m9 20282409603651670423947251286016 a4 b0
 have e41:(20282409603651670423947251286016*a4)*(67108864*b1)=1361129467683753853853498429727072845824*(a4*b1):=iJ 20282409603651670423947251286016 67108864 a4 b1 1361129467683753853853498429727072845824 (by decide)
 have e42:(20282409603651670423947251286016*a4)*(4503599627370496*b2)=91343852333181432387730302044767688728495783936*(a4*b2):=iJ 20282409603651670423947251286016 4503599627370496 a4 b2 91343852333181432387730302044767688728495783936 (by decide)
 have e43:(20282409603651670423947251286016*a4)*(302231454903657293676544*b3)=6129982163463555433433388108601236734474956488734408704*(a4*b3):=iJ 20282409603651670423947251286016 302231454903657293676544 a4 b3 6129982163463555433433388108601236734474956488734408704 (by decide)
 have e44:(20282409603651670423947251286016*a4)*(20282409603651670423947251286016*b4)=411376139330301510538742295639337626245683966408394965837152256*(a4*b4):=iJ 20282409603651670423947251286016 20282409603651670423947251286016 a4 b4 411376139330301510538742295639337626245683966408394965837152256 (by decide)
 unfold V5
 simp only[Int.add_mul,Int.mul_add,e01,e02,e03,e04,e10,e11,e12,e13,e14,e20,e21,e22,e23,e24,e30,e31,e32,e33,e34,e40,e41,e42,e43,e44]
 generalize a0*b0=p00
 generalize a0*b1=p01
 generalize a0*b2=p02
 generalize a0*b3=p03
 generalize a0*b4=p04
 generalize a1*b0=p10
 generalize a1*b1=p11
 generalize a1*b2=p12
 generalize a1*b3=p13
 generalize a1*b4=p14
 generalize a2*b0=p20
 generalize a2*b1=p21
 generalize a2*b2=p22
 generalize a2*b3=p23
 generalize a2*b4=p24
 generalize a3*b0=p30
 generalize a3*b1=p31
 generalize a3*b2=p32
 generalize a3*b3=p33
 generalize a3*b4=p34
 generalize a4*b0=p40
 generalize a4*b1=p41
 generalize a4*b2=p42
 generalize a4*b3=p43
 generalize a4*b4=p44
 omega
set_option maxHeartbeats 1000000 in
theorem ML (a0 a1 a2 a3 a4 b0 b1 b2 b3 b4:Int):
 V5 (a0*b0+5*a1*b4+5*a2*b3+5*a3*b2+5*a4*b1) (a0*b1+a1*b0+5*a2*b4+5*a3*b3+5*a4*b2) (a0*b2+a1*b1+a2*b0+5*a3*b4+5*a4*b3) (a0*b3+a1*b2+a2*b1+a3*b0+5*a4*b4) (a0*b4+a1*b3+a2*b2+a3*b1+a4*b0)=V5 a0 a1 a2 a3 a4*V5 b0 b1 b2 b3 b4 - gP*(a1*b4+a2*b3+67108864*(a2*b4)+a3*b2+67108864*(a3*b3)+4503599627370496*(a3*b4)+a4*b1+67108864*(a4*b2)+4503599627370496*(a4*b3)+302231454903657293676544*(a4*b4)):=by
 rw[OR]
 rw[Int.mul_assoc 5 a1 b4]
 rw[Int.mul_assoc 5 a2 b3]
 rw[Int.mul_assoc 5 a2 b4]
 rw[Int.mul_assoc 5 a3 b2]
 rw[Int.mul_assoc 5 a3 b3]
 rw[Int.mul_assoc 5 a3 b4]
 rw[Int.mul_assoc 5 a4 b1]
 rw[Int.mul_assoc 5 a4 b2]
 rw[Int.mul_assoc 5 a4 b3]
 rw[Int.mul_assoc 5 a4 b4]
 generalize a0*b0=p00
 generalize a0*b1=p01
 generalize a0*b2=p02
 generalize a0*b3=p03
 generalize a0*b4=p04
 generalize a1*b0=p10
 generalize a1*b1=p11
 generalize a1*b2=p12
 generalize a1*b3=p13
 generalize a1*b4=p14
 generalize a2*b0=p20
 generalize a2*b1=p21
 generalize a2*b2=p22
 generalize a2*b3=p23
 generalize a2*b4=p24
 generalize a3*b0=p30
 generalize a3*b1=p31
 generalize a3*b2=p32
 generalize a3*b3=p33
 generalize a3*b4=p34
 generalize a4*b0=p40
 generalize a4*b1=p41
 generalize a4*b2=p42
 generalize a4*b3=p43
 generalize a4*b4=p44
 unfold V5 gP
 omega
def iQ (r:Int) (zs:List Int):Nat→Int
 | 0=>0
 | k+1=>(iQ r zs k+(aT ((zs.drop (16*k)).take 16)+256^((zs.drop (16*k)).take 16).length))*r%gP
theorem TK (A pc R qa q s:Int) (h:s=(A+gP*qa+pc)*R - gP*q):∃t,s=(A+pc)*R%gP+gP*t:=by
 refine⟨(A+pc)*R / gP+qa*R - q,?_⟩
 have e:(A+gP*qa+pc)*R=(A+pc)*R+gP*(qa*R):=by
  rw[show A+gP*qa+pc=(A+pc)+gP*qa by omega,Int.add_mul,Int.mul_assoc]
 rw[h,e]
 have:=Int.mul_ediv_add_emod ((A+pc)*R) gP
 rw[Int.mul_sub,Int.mul_add]
 omega
def kO (l:List Int):Int:=aF l 0%268435456+4294967296*(4*(aF l 1 / 4%67108864))+18446744073709551616*(4*(aF l 2 / 4%67108864))+79228162514264337593543950336*(4*(aF l 3 / 4%67108864))
def YQ (l:List Int):Int:=aF (l.drop 16) 0+4294967296*aF (l.drop 16) 1+18446744073709551616*(aF (l.drop 16) 2+4294967296*aF (l.drop 16) 3)
def gG (N:Int):List Int:=(List.range 16).map fun i=>N / 256^i%256
def hJ (key zs:List Int):List Int:=gG (iQ (kO key) zs ((zs.length+15) / 16)+YQ key)
theorem U2 (N:Int) (i:Nat) (hi:i<8):N%18446744073709551616 / 256^i%256=N / 256^i%256:=by
 match i,hi with
 | 0,_=>simp
 | 1,_=>simp;omega
 | 2,_=>simp;omega
 | 3,_=>simp;omega
 | 4,_=>simp;omega
 | 5,_=>simp;omega
 | 6,_=>simp;omega
 | 7,_=>simp;omega
theorem Q9 (N:Int) (i:Nat) (hi:i<8):N / 18446744073709551616%18446744073709551616 / 256^i%256=N / 256^(8+i)%256:=by
 match i,hi with
 | 0,_=>simp
 | 1,_=>simp;omega
 | 2,_=>simp;omega
 | 3,_=>simp;omega
 | 4,_=>simp;omega
 | 5,_=>simp;omega
 | 6,_=>simp;omega
 | 7,_=>simp;omega
theorem YH (N lo hi:Int) (hlo:lo=N%18446744073709551616) (hhi:hi=N / 18446744073709551616%18446744073709551616) (z:List Int) (hz:z.length=16):
 pF9 (pF9 z 0 (fun i=>lo / 256^i%256) 8) 8 (fun i=>hi / 256^i%256) 8=gG N:=by
 apply List.ext_getElem?
 intro i
 rw[cR _ _ _ _ _ (by rw[aR _ _ _ _ (by omega)];omega),cR _ _ _ _ _ (by omega)]
 simp only[gG,List.getElem?_map]
 by_cases h:i<16
 ·rw[List.getElem?_range h]
  by_cases h8:i<8
  ·rw[if_neg (by omega),if_pos (by omega),hlo,Nat.sub_zero,U2 N i h8]
   rfl
  ·rw[if_pos (by omega),hhi,Q9 N (i - 8) (by omega),show 8+(i - 8)=i by omega]
   rfl
 ·rw[if_neg (by omega),if_neg (by omega),List.getElem?_eq_none (by omega),List.getElem?_eq_none (by simp;omega)]
  rfl
theorem MU (r:Int) (zs:List Int) (k:Nat):0≤iQ r zs k∧iQ r zs k<gP:=by
 cases k with
 | zero=>simp[iQ,gP]
 | succ k=>
   unfold iQ
   exact⟨Int.emod_nonneg _ (by decide),Int.emod_lt_of_pos _ (by decide)⟩
theorem TJ {a b q:Int} (h:a=b+gP*q) (ha:0≤a) (ha2:a<gP) (hb:0≤b) (hb2:b<gP):a=b:=by
 unfold gP at*
 omega
theorem PQ (x y:Int) (hx:0≤x) (hx2:x<4294967296) (hy:0≤y) (hy2:y<4294967296):bits .or .u64 x (y*4294967296)=x+4294967296*y:=by
 rw[yE 32 x (y*4294967296) (by decide) (by omega) (by omega) (by omega) (by omega) (by omega)]
 omega
theorem M7 (n:Nat):aE (rQ n 0):=fun i=>by simp[List.getD_eq_getElem?_getD,List.getElem?_replicate];split<;>simp
def Sl (w:World) (g o:Nat) (l:List Int):Prop:=g<w.heap.size∧∀i,i<l.length→w.cell? ⟨g,o+i,none⟩=some (.int .u8 (l.getD i 0))
theorem Sl.later {w w':World} {B g o:Nat} {l:List Int} (h:Sl w g o l) (hb:Below B w w') (hB:g<B):Sl w' g o l:=
 ⟨nJ h.1 hb.size,fun i hi=>(hb.cell (p:=⟨g,o+i,none⟩) hB).trans (h.2 i hi)⟩
theorem Sl.of_row {w:World} {g:Nat} {l:List Int} {t:TypeId} (h:w.heap[g]? =some (.cells (Iv .u8 l) t)):Sl w g 0 l:=
 ⟨(Array.getElem?_eq_some_iff.1 h).1,fun i hi=>by rw[Nat.zero_add,cell_of_row _ _ _ _ _ _ h];simp[Iv,hi]⟩
theorem Sl.take {w:World} {g o:Nat} {l:List Int} (h:Sl w g o l) (n:Nat):Sl w g o (l.take n):=
 ⟨h.1,fun i hi=>by rw[List.length_take]at hi;rw[h.2 i (by omega)];simp[List.getD_eq_getElem?_getD,show i<n by omega]⟩
theorem Sl.drop {w:World} {g o:Nat} {l:List Int} (h:Sl w g o l) (n:Nat):Sl w g (o+n) (l.drop n):=
 ⟨h.1,fun i hi=>by rw[List.length_drop]at hi;rw[Nat.add_assoc,h.2 (n+i) (by omega)];simp[List.getD_eq_getElem?_getD]⟩
theorem Sl.of_own {w:World} {base:Nat} {g n cap:Nat} {e:TypeId} {l:List Int} (h:bX .u8 e base w (.slice (some ⟨g,0,none⟩) n cap) l):Sl w g 0 l:=by
 obtain⟨h1,⟨hv,_⟩|⟨g',cap',cur,hv,hg,hh,hc,hmx,hs,ht⟩⟩:=h
 ·cases hv
 ·simp at hv
  obtain⟨rfl,rfl,rfl⟩:=hv
  refine⟨(Array.getElem?_eq_some_iff.1 hh).1,fun i hi=>?_⟩
  have:=World.ownsRow.cells (w:=w) (base:=base) (e:=e) (size:=1) (v:=.slice (some ⟨g,0,none⟩) l.length cap) (n:=l.length) (xs:=iv .u8 l) (g:=g) ⟨by simp[fW],.inr ⟨g,cap,cur,rfl,hg,hh,hc,hmx,hs,ht⟩⟩ rfl i (.int .u8 (l.getD i 0)) (by rw[CX];simp[hi])
  have e2:(⟨g,0,none⟩:Addr).add i=⟨g,0+i,none⟩:=by unfold Addr.add;split<;>simp_all
  rw[e2]at this
  exact this
theorem mS:(prog.info? 5).map (fun i=>(i.zero,i.size,i.bytes))=some (some (.int .u8 0),1,1):=by kernel_rfl
theorem LU {k:IntKind} {e:TypeId} {base:Nat} {w:World} {g n cap:Nat} {l:List Int} (h:bX k e base w (.slice (some ⟨g,0,none⟩) n cap) l) (j:Nat):w.frozen? ⟨g,j,none⟩=false:=by
 obtain⟨h1,⟨hv,_⟩|⟨g',cap',cur,hv,hg,hh,hc,hmx,hs,ht⟩⟩:=h
 ·cases hv
 ·simp at hv
  obtain⟨rfl,rfl,rfl⟩:=hv
  exact frozen_of_row _ _ _ _ _ hh
theorem AY {k:IntKind} {e:TypeId} {base:Nat} {w W:World} {g n cap b:Nat} {l:List Int} {cs:Array Value} {t:TypeId} (h:bX k e base w (.slice (some ⟨g,0,none⟩) n cap) l) (hp:vD w b cs t W) (hne:g≠b):bX k e base W (.slice (some ⟨g,0,none⟩) n cap) l:=by
 obtain⟨h1,⟨hv,_⟩|⟨g',cap',cur,hv,hg,hh,hc,hmx,hs,ht⟩⟩:=h
 ·cases hv
 ·simp at hv
  obtain⟨rfl,rfl,rfl⟩:=hv
  exact⟨h1,.inr ⟨g,cap,cur,rfl,hg,(hp.far _ hne).trans hh,hc,hmx,hs,ht⟩⟩
theorem pJ {k:IntKind} {e:TypeId} {base:Nat} {w:World} {v:Value} {l:List Int} (h:bX k e base w v l) (hv:v.ownBlock≠none):∃g cap,v=.slice (some ⟨g,0,none⟩) l.length cap∧base≤g∧l.length≤cap∧cap≤9223372036854775807∧g<w.heap.size∧v.ownBlock=some g:=by
 obtain⟨_,⟨rfl,_⟩|⟨g,cap,cur,rfl,hg,hh,hc,hmx,hs,ht⟩⟩:=h
 ·exact absurd rfl hv
 ·exact⟨g,cap,rfl,hg,hc,by unfold maxLen at hmx;omega,(Array.getElem?_eq_some_iff.1 hh).1,rfl⟩
theorem tM {v v':Value} {n:Nat} (hv:v.ownBlock≠none) (h:v'.ownBlock=v.ownBlock∨v'.ownBlock=some n):v'.ownBlock≠none:=by
 rcases h with h|h
 ·rw[h];exact hv
 ·rw[h];simp
theorem DP {e:TypeId} {base:Nat} {w:World} {v:Value} {l:List Int} (h:bX .u8 e base w v l) (hl:0<l.length):∃g cap,v=.slice (some ⟨g,0,none⟩) l.length cap∧base≤g∧l.length≤cap∧cap≤9223372036854775807∧g<w.heap.size∧v.ownBlock=some g:=by
 obtain⟨_,⟨_,h0⟩|⟨g,cap,cur,rfl,hg,hh,hc,hmx,hs,ht⟩⟩:=h
 ·omega
 ·exact⟨g,cap,rfl,hg,hc,by unfold maxLen at hmx;omega,(Array.getElem?_eq_some_iff.1 hh).1,rfl⟩
def EB (k:IntKind) (e:TypeId) (base:Nat) (w:World) (v:Value) (l:List Int):Prop:=bX k e base w v l∧v.ownBlock≠none
theorem EB.later {k:IntKind} {e:TypeId} {base:Nat} {w w':World} {v:Value} {l:List Int} (h:EB k e base w v l) (hb:Below w.heap.size w w'):EB k e base w' v l:=⟨bX.later h.1 hb,h.2⟩
theorem EB.mono {k:IntKind} {e:TypeId} {base base':Nat} {w:World} {v:Value} {l:List Int} (h:EB k e base w v l) (hb:base'≤base):EB k e base' w v l:=⟨bX.mono h.1 hb,h.2⟩
theorem EB.sl {e:TypeId} {base:Nat} {w:World} {v:Value} {l:List Int} (h:EB .u8 e base w v l):∃g cap,v=.slice (some ⟨g,0,none⟩) l.length cap∧base≤g∧Sl w g 0 l∧l.length≤cap∧cap≤9223372036854775807:=by
 obtain⟨g,cap,rfl,h1,h2,h3,h4,_⟩:=pJ h.1 h.2
 exact⟨g,cap,rfl,h1,Sl.of_own h.1,h2,h3⟩
theorem EB.row {e:TypeId} {base:Nat} {w:World} {v:Value} {l:List Int} (h:EB .u8 e base w v l):∃g cap cur,v=.slice (some ⟨g,0,none⟩) l.length cap∧base≤g∧w.heap[g]? =some (.cells cur e)∧(∀i,i<l.length→cur[i]? =some (.int .u8 (l.getD i 0))):=by
 obtain⟨⟨h1,⟨rfl,_⟩|⟨g,cap,cur,rfl,hg,hh,hc,hmx,hs,ht⟩⟩,hne⟩:=h
 ·exact absurd rfl hne
 ·refine⟨g,cap,cur,rfl,hg,hh,fun i hi=>?_⟩
  have e1:(cur.toList.take (l.length*1))[i]? =(iv .u8 l)[i]? :=by rw[ht]
  rw[List.getElem?_take,if_pos (by omega),Array.getElem?_toList]at e1
  rw[e1,CX]
  simp[hi]
def xb (a b:Int):Int:=bits .xor .u8 a b
theorem adF (a b:Int):0≤xb a b∧xb a b≤255:=by
 unfold xb
 rw[bits.eq_3,IntKind.wrap_u8]
 omega
def blk (key nonce:List Int) (i:Nat):List Int:=gW (iY key (fM i nonce)) (bK (iY key (fM i nonce)) 10)
def lH (B:Nat→List Int) (text:List Int) (k:Nat):List Int:=(List.range k).map fun i=>xb (text.getD i 0) ((B (1+i / 64)).getD (i%64) 0)
theorem IE (B:Nat→List Int) (text:List Int) (k:Nat):lH B text (k+1)=lH B text k++[xb (text.getD k 0) ((B (1+k / 64)).getD (k%64) 0)]:=by simp[lH,List.range_succ]
theorem iR (B:Nat→List Int) (text:List Int) (k:Nat):(lH B text k).length=k:=by simp[lH]
theorem uW (f:Nat→Int) (n:Nat) (h:∀i,0≤f i∧f i≤255):aE ((List.range n).map f):=by
 intro i
 simp only[List.getD_eq_getElem?_getD,List.getElem?_map]
 by_cases h1:i<n
 ·rw[List.getElem?_range h1]
  exact h i
 ·rw[List.getElem?_eq_none (by simp;omega)]
  exact(show(0:Int)≤0∧(0:Int)≤255 from⟨by decide,by decide⟩)
theorem xB (B:Nat→List Int) (text:List Int) (k:Nat):aE (lH B text k):=uW _ _ (fun i=>adF _ _)
def mH (n:Nat):Nat:=(16 - n%16)%16
def gN (l:List Int):List Int:=l++rQ (mH l.length) 0
def AP (n:Nat):List Int:=(List.range 8).map fun i=>(n:Int) / 256^i%256
theorem fG (n:Nat):(AP n).length=8:=by simp[AP]
theorem GP (n:Nat):aE (AP n):=uW _ _ (fun i=>by omega)
def tR (E H:List Int):List Int:=gN E++(gN H++(AP E.length++AP H.length))
def OP (B:Nat→List Int) (E H:List Int):List Int:=hJ ((B 0).take 32) (tR E H)
def qF (B:Nat→List Int) (E text:List Int):List Int:=lH B text text.length++OP B E (lH B text text.length)
theorem nL (n:Nat):mH n<16:=Nat.mod_lt _ (by decide)
theorem iU (l:List Int):(gN l).length=l.length+mH l.length:=by simp[gN]
theorem zS {l:List Int} (h:aE l):aE (gN l):=bI h (M7 _)
theorem DG {E H:List Int} (hE:aE E) (hH:aE H):aE (tR E H):=bI (zS hE) (bI (zS hH) (bI (GP _) (GP _)))
theorem p9 (E H:List Int):(tR E H).length=E.length+mH E.length+(H.length+mH H.length+16):=by simp[tR,iU,fG]
def zN (f:Nat) (key nonce:List Int) (B:Nat→List Int) (C:World→Prop):Prop:=
 ∀(i:Nat) (W:World),i≤2000→C W→Calls prog f #[.agg (Iv .u8 key),.int .u32 (i:Int),.agg (Iv .u8 nonce)] W fun e w'=>e=.returned (.agg (Iv .u8 (B i)))∧Below W.heap.size W w'
theorem NA (key nonce:List Int) (hk:key.length=32) (hr:nonce.length=12) (hkb:aE key) (hrb:aE nonce):zN 139 key nonce (blk key nonce) jO:=
 fun i W hi hW=>IY key nonce i W hk hr hkb hrb (by omega) (by omega) hW
theorem ND (key nonce:List Int) (hk:key.length=32) (hr:nonce.length=12) (hkb:aE key) (hrb:aE nonce):zN 81 key nonce (blk key nonce) (fun _=>True):=
 fun i W hi _=>zF key nonce i W hk hr hkb hrb (by omega) (by omega)
end Go.Proofs.YtgcepckaolkeoaaGreatDoor
