import Derived.Test.YtpljdjmpamjkhaaGreatDoorYac
import Derived.Test.YtpljdjmpamjkhaaGreatDoorYag
set_option linter.unusedVariables false
set_option linter.unusedSimpArgs false
set_option maxHeartbeats 1000000
namespace Go.Proofs.YtpljdjmpamjkhaaGreatDoor
open Go.RowKit Go.Lib
theorem cmpK(a b:Int)(w:World):Calls Tryz.prog 150 #[.int .u8 a,.int .u8 b] w fun e w'=>e=.returned (.int .i64 (if a<b then -1 else if b<a then 1 else 0))/\w'=w:=by
 by_cases h1:a<b
 ·go_enter Tryz.func150,Tryz.ntmps150
  go_wp2;go_ret
  exact⟨rfl,rfl⟩
 ·by_cases h2:b<a
  ·go_enter Tryz.func150,Tryz.ntmps150
   go_wp2;go_ret
   exact⟨rfl,rfl⟩
  ·go_enter Tryz.func150,Tryz.ntmps150
   go_wp2;go_ret
   exact⟨rfl,rfl⟩
theorem cmpI(a b:Int)(w:World):Calls Tryz.prog 151 #[.int .i64 a,.int .i64 b] w fun e w'=>e=.returned (.int .i64 (if a<b then -1 else if b<a then 1 else 0))/\w'=w:=by
 by_cases h1:a<b
 ·go_enter Tryz.func151,Tryz.ntmps151
  go_wp2;go_ret
  exact⟨rfl,rfl⟩
 ·by_cases h2:b<a
  ·go_enter Tryz.func151,Tryz.ntmps151
   go_wp2;go_ret
   exact⟨rfl,rfl⟩
  ·go_enter Tryz.func151,Tryz.ntmps151
   go_wp2;go_ret
   exact⟨rfl,rfl⟩
theorem TG(a b:ByteArray)(w:World)(h:Op.bytesLess a.toList b.toList=true):Calls Tryz.prog 152 #[.string a,.string b] w fun e w'=>e=.returned (.int .i64 (-1))/\w'=w:=by
 go_enter Tryz.func152,Tryz.ntmps152
 go_wp2;go_ret
 exact⟨rfl,rfl⟩
theorem TH(a b:ByteArray)(w:World)(h:Op.bytesLess a.toList b.toList=false)(h2:(a.toList==b.toList)=true):Calls Tryz.prog 152 #[.string a,.string b] w fun e w'=>e=.returned (.int .i64 0)/\w'=w:=by
 go_enter Tryz.func152,Tryz.ntmps152
 go_wp2;go_ret
 exact⟨rfl,rfl⟩
theorem TI(a b:ByteArray)(w:World)(h:Op.bytesLess a.toList b.toList=false)(h2:(a.toList==b.toList)=false):Calls Tryz.prog 152 #[.string a,.string b] w fun e w'=>e=.returned (.int .i64 1)/\w'=w:=by
 go_enter Tryz.func152,Tryz.ntmps152
 go_wp2;go_ret
 exact⟨rfl,rfl⟩
def c3(a b:Int):Int:=if a<b then -1 else if b<a then 1 else 0
def cS(a b:ByteArray):Int:=if Op.bytesLess a.toList b.toList=true then -1 else if (a.toList==b.toList)=true then 0 else 1
def or3(x y z:Int):Int:=if x≠0 then x else if y≠0 then y else z
theorem PG(a b:Int)(w:World):Calls Tryz.prog 150 #[.int .u8 a,.int .u8 b] w fun e w'=>e=.returned (.int .i64 (c3 a b))/\w'=w:=by
 unfold c3;exact cmpK a b w
theorem PH(a b:Int)(w:World):Calls Tryz.prog 151 #[.int .i64 a,.int .i64 b] w fun e w'=>e=.returned (.int .i64 (c3 a b))/\w'=w:=by
 unfold c3;exact cmpI a b w
theorem PI(a b:ByteArray)(w:World):Calls Tryz.prog 152 #[.string a,.string b] w fun e w'=>e=.returned (.int .i64 (cS a b))/\w'=w:=by
 unfold cS;by_cases h:Op.bytesLess a.toList b.toList=true
 ·rw[if_pos h];exact TG a b w h
 ·rw[if_neg h]
  by_cases h2:(a.toList==b.toList)=true
  ·rw[if_pos h2];exact TH a b w (by simpa using h) h2
  ·rw[if_neg h2];exact TI a b w (by simpa using h) (by simpa using h2)
theorem or_x(g:Nat)(x:Int)(w:World)(h0:w.cell? ⟨g,0,none⟩=some (.int .i64 x))(hx:(x != 0)=true):Calls Tryz.prog 149 #[.slice (some ⟨g,0,none⟩) 3 3] w fun e w'=>e=.returned (.int .i64 x)/\w'=w:=by
 go_enter Tryz.func149,Tryz.ntmps149
 go_wp2;refine wp_loop_rounds 1 ?_;rw[rounds_succ];go_wp2;go_ret
 exact⟨rfl,rfl⟩
theorem or_y(g:Nat)(y:Int)(w:World)(h0:w.cell? ⟨g,0,none⟩=some (.int .i64 0))(h1:w.cell? ⟨g,1,none⟩=some (.int .i64 y))(hy:(y != 0)=true):Calls Tryz.prog 149 #[.slice (some ⟨g,0,none⟩) 3 3] w fun e w'=>e=.returned (.int .i64 y)/\w'=w:=by
 go_enter Tryz.func149,Tryz.ntmps149
 go_wp2;refine wp_loop_rounds 2 ?_;rw[rounds_succ];go_wp2;rw[rounds_succ];go_wp2;go_ret
 exact⟨rfl,rfl⟩
theorem or_z(g:Nat)(z:Int)(w:World)(h0:w.cell? ⟨g,0,none⟩=some (.int .i64 0))(h1:w.cell? ⟨g,1,none⟩=some (.int .i64 0))(h2:w.cell? ⟨g,2,none⟩=some (.int .i64 z))(hz:(z != 0)=true):Calls Tryz.prog 149 #[.slice (some ⟨g,0,none⟩) 3 3] w fun e w'=>e=.returned (.int .i64 z)/\w'=w:=by
 go_enter Tryz.func149,Tryz.ntmps149
 go_wp2;refine wp_loop_rounds 3 ?_;rw[rounds_succ];go_wp2;rw[rounds_succ];go_wp2;rw[rounds_succ];go_wp2;go_ret
 exact⟨rfl,rfl⟩
theorem TJ(g:Nat)(w:World)(h0:w.cell? ⟨g,0,none⟩=some (.int .i64 0))(h1:w.cell? ⟨g,1,none⟩=some (.int .i64 0))(h2:w.cell? ⟨g,2,none⟩=some (.int .i64 0)):Calls Tryz.prog 149 #[.slice (some ⟨g,0,none⟩) 3 3] w fun e w'=>e=.returned (.int .i64 0)/\w'=w:=by
 go_enter Tryz.func149,Tryz.ntmps149
 go_wp2;refine wp_loop_rounds 4 ?_;rw[rounds_succ];go_wp2;rw[rounds_succ];go_wp2;rw[rounds_succ];go_wp2;rw[rounds_succ];go_wp2;go_ret
 exact⟨rfl,rfl⟩
theorem WY(g:Nat)(x y z:Int)(w:World)(h0:w.cell? ⟨g,0,none⟩=some (.int .i64 x))(h1:w.cell? ⟨g,1,none⟩=some (.int .i64 y))(h2:w.cell? ⟨g,2,none⟩=some (.int .i64 z)):Calls Tryz.prog 149 #[.slice (some ⟨g,0,none⟩) 3 3] w fun e w'=>e=.returned (.int .i64 (or3 x y z))/\w'=w:=by
 unfold or3;by_cases hx:x≠0
 ·rw[if_pos hx];exact or_x g x w h0 (by simpa using hx)
 ·rw[if_neg hx]
  obtain rfl:x=0:=by omega
  by_cases hy:y≠0
  ·rw[if_pos hy];exact or_y g y w h0 h1 (by simpa using hy)
  ·rw[if_neg hy]
   obtain rfl:y=0:=by omega
   by_cases hz:z=0
   ·subst hz;exact TJ g w h0 h1 h2
   ·exact or_z g z w h0 h1 h2 (by simpa using hz)
theorem C9{x y:Value}{k n k' n':Int}{s s':ByteArray}(hx:Val x k n s)(hy:Val y k' n' s')(w:World):Calls Tryz.prog 105 #[x,y] w fun e w'=>e=.returned (.int .i64 (or3 (c3 k k') (c3 n n') (cS s s')))/\Below w.heap.size w w':=by
 go_enter Tryz.func105,Tryz.ntmps105
 go_wp2_with fail;refine(pq hx _).mono ?_;rintro e w1 ⟨rfl,aG⟩;go_wp2_with fail;refine(pq hy _).mono ?_;rintro e w2 ⟨rfl,aD⟩;have cW:=aG.size;have bm:w1.heap.size<w2.heap.size:=by have:=aD.size;simp at this;omega
 obtain⟨kx,dM⟩:=kI aD;have p0:=kx w1.heap.size 0 (by simp);have p1:=kx w1.heap.size 1 (by simp);have p2:=kx w1.heap.size 2 (by simp);clear kx dM;simp at p0 p1 p2
 go_wp2_with fail;obtain⟨W,hW⟩:∃ W:World,W=w2.alloc (Obj.cells #[Value.int IntKind.u8 k',Value.int IntKind.i64 n',Value.string s'] 52):=⟨_,rfl⟩;have hbW:Below w2.heap.size w2 W:=by rw[hW];exact(ZQ _ _).alloc (ZR _) _
 have a0:W.cell? ⟨w1.heap.size,0,none⟩=some (.int .u8 k):=(hbW.cell (p:=⟨w1.heap.size,0,none⟩) bm).trans p0;have a1:W.cell? ⟨w1.heap.size,1,none⟩=some (.int .i64 n):=(hbW.cell (p:=⟨w1.heap.size,1,none⟩) bm).trans p1;have a2:W.cell? ⟨w1.heap.size,2,none⟩=some (.string s):=(hbW.cell (p:=⟨w1.heap.size,2,none⟩) bm).trans p2;have b0:W.cell? ⟨w2.heap.size,0,none⟩=some (.int .u8 k'):=by rw[hW];simp
 have b1:W.cell? ⟨w2.heap.size,1,none⟩=some (.int .i64 n'):=by rw[hW];simp
 have b2:W.cell? ⟨w2.heap.size,2,none⟩=some (.string s'):=by rw[hW];simp
 have hzW:w2.heap.size<W.heap.size:=by rw[hW];simp
 have hzV:w1.heap.size<W.heap.size:=by omega
 have HB:Below w.heap.size w W:=by rw[hW];exact(((aG.alloc (by omega) _).trans (aD.mono (by simp;omega))).alloc (by omega) _)
 have HH:Hid (Below w.heap.size w W):=HB;clear HB;rw[← hW];clear hW hbW p0 p1 p2 aG aD hx hy;go_region_held3 (fun w'=>w'.cell? ⟨w1.heap.size,0,none⟩=some (.int .u8 k)/\w'.cell? ⟨w1.heap.size,1,none⟩=some (.int .i64 n)/\w'.cell? ⟨w1.heap.size,2,none⟩=some (.string s)/\w'.cell? ⟨w2.heap.size,0,none⟩=some (.int .u8 k')/\w'.cell? ⟨w2.heap.size,1,none⟩=some (.int .i64 n')/\w'.cell? ⟨w2.heap.size,2,none⟩=some (.string s')) (go_keep) (first | (go_at_call 150;refine(PG _ _ _).mono ?_;rintro e w' ⟨rfl,rfl⟩) | (go_at_call 151;refine(PH _ _ _).mono ?_;rintro e w' ⟨rfl,rfl⟩) | (go_at_call 152;refine(PI _ _ _).mono ?_;rintro e w' ⟨rfl,rfl⟩) | (go_at_call 149;refine(WY _ (c3 k k') (c3 n n') (cS s s') _ ?_ ?_ ?_).mono ?_;(simp);(simp);(simp);rintro e w' ⟨rfl,rfl⟩))
 all_goals go_wp2
 all_goals go_ret
 all_goals refine⟨rfl,?_⟩
 all_goals exact(HH.out.alloc (by have:=HH.out.size;omega) _).drew
theorem km(k n:Int)(s:ByteArray)(w:World):Calls Tryz.prog 266 #[.agg #[.int .u8 k,.int .i64 n,.string s]] w fun e w'=>e=.returned (.bool (uP k n))/\Below w.heap.size w w':=by
 unfold uP;by_cases h1:(k==1)=true
 ·go_enter Tryz.func266,Tryz.ntmps266
  go_wp2;go_ret
  exact⟨rfl,(ZQ _ _).alloc (ZR _) _⟩
 ·by_cases h2:(k==2)=true
  ·by_cases h3:(n==0)=true
   ·go_enter Tryz.func266,Tryz.ntmps266
    go_wp2;go_ret
    exact⟨rfl,(ZQ _ _).alloc (ZR _) _⟩
   ·go_enter Tryz.func266,Tryz.ntmps266
    go_wp2;go_ret
    exact⟨rfl,(ZQ _ _).alloc (ZR _) _⟩
  ·go_enter Tryz.func266,Tryz.ntmps266
   go_wp2;go_ret
   exact⟨rfl,(ZQ _ _).alloc (ZR _) _⟩
theorem FN{v:Value}{k n:Int}{s:ByteArray}(h:Val v k n s)(w:World):Calls Tryz.prog 144 #[v] w fun e w'=>e=.returned (.int .u8 k)/\w'=w:=by
 have t1:=Ab;have t2:=EY;have t3:=Ac;have t4:=EZ;have t5:=E0;have t6:=Ad;have t7:=E1;have t8:=E2;have t9:=E3;rcases h with ⟨rfl,rfl,rfl,rfl⟩ | ⟨rfl,rfl,rfl⟩ | ⟨b,rfl,rfl,rfl,rfl⟩ | ⟨rfl,rfl,rfl⟩
 all_goals
  go_enter Tryz.func144,Tryz.ntmps144
  go_wp2;go_ret
  exact⟨rfl,rfl⟩
theorem FO{v:Value}{k n:Int}{s:ByteArray}(h:Val v k n s)(w:World):Calls Tryz.prog 100 #[v] w fun e w'=>e=.returned (.int .u8 k)/\w'=w:=by
 go_enter Tryz.func100,Tryz.ntmps100
 go_wp2_with fail;refine(FN h _).mono ?_;rintro e w1 ⟨rfl,rfl⟩;go_wp2;go_ret
 exact⟨rfl,rfl⟩
theorem FP(k n:Int)(s:ByteArray)(w:World)(h1:3<k):Calls Tryz.prog 238 #[.agg #[.int .u8 k,.int .i64 n,.string s]] w fun e w'=>e=.returned (.int .i64 10)/\Below w.heap.size w w':=by
 go_enter Tryz.func238,Tryz.ntmps238
 go_wp2;go_ret
 exact⟨rfl,(ZQ _ _).alloc (ZR _) _⟩
theorem FQ(k n:Int)(s:ByteArray)(w:World)(h1:k<=3)(h2:(k != 3)=true)(h3:s.toList.isEmpty=false):Calls Tryz.prog 238 #[.agg #[.int .u8 k,.int .i64 n,.string s]] w fun e w'=>e=.returned (.int .i64 1)/\Below w.heap.size w w':=by
 go_enter Tryz.func238,Tryz.ntmps238
 go_wp2;go_ret
 exact⟨rfl,(ZQ _ _).alloc (ZR _) _⟩
theorem K5(k n:Int)(s:ByteArray)(w:World)(h1:k<=3)(h2:(k != 3)=false∨(k != 3)=true/\s.toList.isEmpty=true)(h3:uP k n=false):Calls Tryz.prog 238 #[.agg #[.int .u8 k,.int .i64 n,.string s]] w fun e w'=>e=.returned (.int .i64 1)/\Below w.heap.size w w':=by
 rcases h2 with h2 | ⟨h2,h4⟩
 all_goals
  go_enter Tryz.func238,Tryz.ntmps238
  go_wp2_with fail;refine(km _ _ _ _).mono ?_;rw[h3];rintro e w1 ⟨rfl,hb⟩;obtain⟨hc,hf⟩:=kI hb;go_wp2;go_ret
  exact⟨rfl,((ZQ _ _).alloc (ZR _) _).trans (hb.mono (by simp))⟩
theorem FR(k n:Int)(s:ByteArray)(w:World)(h1:k<=3)(h2:(k != 3)=false∨(k != 3)=true/\s.toList.isEmpty=true)(h3:uP k n=true)(h5:64<(s.size:Int)):Calls Tryz.prog 238 #[.agg #[.int .u8 k,.int .i64 n,.string s]] w fun e w'=>e=.returned (.int .i64 5)/\Below w.heap.size w w':=by
 rcases h2 with h2 | ⟨h2,h4⟩
 all_goals
  go_enter Tryz.func238,Tryz.ntmps238
  go_wp2_with fail;refine(km _ _ _ _).mono ?_;rw[h3];rintro e w1 ⟨rfl,hb⟩;obtain⟨hc,hf⟩:=kI hb;go_wp2;go_ret
  exact⟨rfl,((ZQ _ _).alloc (ZR _) _).trans (hb.mono (by simp))⟩
theorem PJ(k n:Int)(s:ByteArray)(w:World)(h1:k<=3)(h2:(k != 3)=false∨(k != 3)=true/\s.toList.isEmpty=true)(h3:uP k n=true)(h5:(s.size:Int)<=64):Calls Tryz.prog 238 #[.agg #[.int .u8 k,.int .i64 n,.string s]] w fun e w'=>e=.returned (.int .i64 0)/\Below w.heap.size w w':=by
 rcases h2 with h2 | ⟨h2,h4⟩
 all_goals
  go_enter Tryz.func238,Tryz.ntmps238
  go_wp2_with fail;refine(km _ _ _ _).mono ?_;rw[h3];rintro e w1 ⟨rfl,hb⟩;obtain⟨hc,hf⟩:=kI hb;go_wp2;go_ret
  exact⟨rfl,((ZQ _ _).alloc (ZR _) _).trans (hb.mono (by simp))⟩
theorem zd(k n:Int)(s:ByteArray)(w:World):Calls Tryz.prog 238 #[.agg #[.int .u8 k,.int .i64 n,.string s]] w fun e w'=>e=.returned (.int .i64 (flt k n s))/\Below w.heap.size w w':=by
 unfold flt;by_cases h1:3<k
 ·rw[if_pos h1];exact FP k n s w h1
 ·rw[if_neg h1]
  by_cases h2:tx k s=true
  ·rw[if_pos h2];exact FQ k n s w (by omega) (Jn h2).1 (Jn h2).2
  ·rw[if_neg h2]
   have h2':=B8 (by simpa using h2);by_cases h3:uP k n=false
   ·rw[if_pos h3];exact K5 k n s w (by omega) h2' h3
   ·rw[if_neg h3]
    by_cases h4:64<(s.size:Int)
    ·rw[if_pos h4];exact FR k n s w (by omega) h2' (by simpa using h3) h4
    ·rw[if_neg h4];exact PJ k n s w (by omega) h2' (by simpa using h3) (by omega)
theorem WZ(k n:Int)(s:ByteArray)(h:(flt k n s != 0)=true)(w:World):Calls Tryz.prog 217 #[.agg #[.int .u8 k,.int .i64 n,.string s]] w fun e w'=>e=.returned (.tuple #[.nilIface,.int .i64 (flt k n s)])/\Below w.heap.size w w':=by
 go_enter Tryz.func217,Tryz.ntmps217
 go_wp2_with fail;refine(zd _ _ _ _).mono ?_;rintro e w1 ⟨rfl,hb⟩;go_wp2_with fail;go_ret2
 exact⟨rfl,((ZQ _ _).alloc (ZR _) _).trans (hb.mono (by simp))⟩
theorem TK(k n:Int)(s:ByteArray)(h0:0<=k)(h:flt k n s=0)(w:World):Calls Tryz.prog 217 #[.agg #[.int .u8 k,.int .i64 n,.string s]] w fun e w'=>(∃ v,e=.returned (.tuple #[v,.int .i64 0])/\Val v k n s)/\Below w.heap.size w w':=by
 have hf:=zd k n s;rw[h]at hf;have HF:Hid (∀ w:World,Calls Tryz.prog 238 #[.agg #[.int .u8 k,.int .i64 n,.string s]] w fun e w'=>e=.returned (.int .i64 0)/\Below w.heap.size w w'):=hf;clear hf;obtain⟨rfl,rfl,rfl⟩ | ⟨rfl,rfl⟩ | ⟨rfl,rfl,rfl⟩ | ⟨rfl,rfl,rfl⟩ | ⟨rfl,rfl,hs⟩:=B9 h0 h
 all_goals clear h h0
 ·go_enter Tryz.func217,Tryz.ntmps217
  go_wp2_with fail;refine(HF.out _).mono ?_;rintro e w1 ⟨rfl,hb⟩;obtain⟨hc,hf⟩:=kI hb;go_wp2_with fail;go_ret2
  exact⟨⟨_,rfl,Or.inl ⟨rfl,rfl,rfl,rfl⟩⟩,((ZQ _ _).alloc (ZR _) _).trans (hb.mono (by simp))⟩
 ·go_enter Tryz.func217,Tryz.ntmps217
  go_wp2_with fail;refine(HF.out _).mono ?_;rintro e w1 ⟨rfl,hb⟩;obtain⟨hc,hf⟩:=kI hb;go_wp2_with fail;go_ret2
  exact⟨⟨_,rfl,Or.inr (Or.inl ⟨rfl,rfl,rfl⟩)⟩,((ZQ _ _).alloc (ZR _) _).trans (hb.mono (by simp))⟩
 ·go_enter Tryz.func217,Tryz.ntmps217
  go_wp2_with fail;refine(HF.out _).mono ?_;rintro e w1 ⟨rfl,hb⟩;obtain⟨hc,hf⟩:=kI hb;go_wp2_with fail;go_ret2
  exact⟨⟨_,rfl,Or.inr (Or.inr (Or.inl ⟨false,rfl,rfl,rfl,rfl⟩))⟩,((ZQ _ _).alloc (ZR _) _).trans (hb.mono (by simp))⟩
 ·go_enter Tryz.func217,Tryz.ntmps217
  go_wp2_with fail;refine(HF.out _).mono ?_;rintro e w1 ⟨rfl,hb⟩;obtain⟨hc,hf⟩:=kI hb;go_wp2_with fail;go_ret2
  exact⟨⟨_,rfl,Or.inr (Or.inr (Or.inl ⟨true,rfl,rfl,rfl,rfl⟩))⟩,((ZQ _ _).alloc (ZR _) _).trans (hb.mono (by simp))⟩
 ·go_enter Tryz.func217,Tryz.ntmps217
  go_wp2_with fail;refine(HF.out _).mono ?_;rintro e w1 ⟨rfl,hb⟩;obtain⟨hc,hf⟩:=kI hb;go_wp2_with fail;go_ret2
  exact⟨⟨_,rfl,Or.inr (Or.inr (Or.inr ⟨rfl,rfl,rfl⟩))⟩,((ZQ _ _).alloc (ZR _) _).trans (hb.mono (by simp))⟩
theorem W0(b:Bool)(w:World):Calls Tryz.prog 221 #[.bool b] w fun e w'=>e=.returned (.int .u8 (if b then 2 else 0))/\w'=w:=by
 cases b
 all_goals
  go_enter Tryz.func221,Tryz.ntmps221
  go_wp2;go_ret
  exact⟨rfl,rfl⟩
theorem tu(l:List UInt8):Op.bytesLess l l=false:=by
 induction l with
 | nil=>rfl
 | cons a l ih=>simp[Op.bytesLess,ih,UInt8.lt_irrefl]
theorem wl:(l m:List UInt8)->Op.bytesLess l m=true->Op.bytesLess m l=false
 | [],[],h=>by simp[Op.bytesLess]at h
 | [],_::_,_=>by simp[Op.bytesLess]
 | _::_,[],h=>by simp[Op.bytesLess]at h
 | a::l,b::m,h=>by
  have ih:=wl l m;simp only[Op.bytesLess,Bool.or_eq_true,decide_eq_true_eq,Bool.and_eq_true,beq_iff_eq]at h;simp only[Op.bytesLess,Bool.or_eq_false_iff,decide_eq_false_iff_not,Bool.and_eq_false_iff,Z1];rcases h with h | ⟨rfl,h⟩
  ·refine⟨fun h2=>UInt8.lt_irrefl _ (UInt8.lt_trans h h2),Or.inl ?_⟩
   rintro rfl;exact UInt8.lt_irrefl _ h
  ·exact⟨UInt8.lt_irrefl _,Or.inr (ih h)⟩
theorem wm:(l m:List UInt8)->Op.bytesLess l m=false->Op.bytesLess m l=false->l=m
 | [],[],_,_=>rfl
 | [],_::_,h,_=>by simp[Op.bytesLess]at h
 | _::_,[],_,h=>by simp[Op.bytesLess]at h
 | a::l,b::m,h,h2=>by
  have ih:=wm l m;simp only[Op.bytesLess,Bool.or_eq_false_iff,decide_eq_false_iff_not,Bool.and_eq_false_iff,Z1]at h h2;have e:a=b:=UInt8.le_antisymm (UInt8.not_lt.mp h2.1) (UInt8.not_lt.mp h.1);subst e;rw[ih (by rcases h.2 with h | h;exact absurd rfl h;exact h) (by rcases h2.2 with h | h;exact absurd rfl h;exact h)]
theorem ze{a b:ByteArray}(h:a.toList=b.toList):a=b:=by
 rw[ByteArray.toList_eq,ByteArray.toList_eq]at h;cases a with
 | mk x=>cases b with
  | mk y=>congr;exact Array.toList_inj.mp h
theorem qJ(a b:ByteArray):(cS a b=-1/\Op.bytesLess a.toList b.toList=true/\Op.bytesLess b.toList a.toList=false/\a≠b)∨(cS a b=0/\a=b)∨(cS a b=1/\Op.bytesLess a.toList b.toList=false/\Op.bytesLess b.toList a.toList=true/\a≠b):=by
 unfold cS;cases h1:Op.bytesLess a.toList b.toList
 ·by_cases h2:a=b
  ·subst h2;exact Or.inr (Or.inl (by simp))
  ·have h3:(a.toList==b.toList)=false:=by
    rw[Z1];exact fun h=>h2 (ze h)
   refine Or.inr (Or.inr ⟨by simp[h3],rfl,?_,h2⟩);cases h4:Op.bytesLess b.toList a.toList
   ·exact absurd (ze (wm _ _ h1 h4)) h2
   ·rfl
 ·refine Or.inl ⟨by simp,rfl,wl _ _ h1,?_⟩
  rintro rfl;rw[tu]at h1;cases h1
theorem TL(a b:ByteArray):cS b a=- cS a b:=by
 rcases qJ a b with ⟨h1,h2,h3,h4⟩ | ⟨h1,rfl⟩ | ⟨h1,h2,h3,h4⟩
 ·rcases qJ b a with ⟨g1,g2,_⟩ | ⟨g1,rfl⟩ | ⟨g1,_⟩
  ·rw[h3]at g2;cases g2
  ·exact absurd rfl h4
  ·omega
 ·omega
 ·rcases qJ b a with ⟨g1,_⟩ | ⟨g1,rfl⟩ | ⟨g1,_,g2,_⟩
  ·omega
  ·exact absurd rfl h4
  ·rw[h2]at g2;cases g2
def cv(k n:Int)(s:ByteArray)(k' n':Int)(s':ByteArray):Int:=or3 (c3 k k') (c3 n n') (cS s s')
theorem kR(a b:Int):(c3 a b=-1/\a<b)∨(c3 a b=0/\a=b)∨(c3 a b=1/\b<a):=by
 unfold c3;by_cases h:a<b
 ·rw[if_pos h];omega
 ·rw[if_neg h]
  by_cases h2:b<a
  ·rw[if_pos h2];omega
  ·rw[if_neg h2];omega
theorem qK(x y z:Int):(x≠0/\or3 x y z=x)∨(x=0/\y≠0/\or3 x y z=y)∨(x=0/\y=0/\or3 x y z=z):=by
 unfold or3;by_cases h:x≠0
 ·rw[if_pos h];exact Or.inl ⟨h,rfl⟩
 ·rw[if_neg h]
  by_cases h2:y≠0
  ·rw[if_pos h2];exact Or.inr (Or.inl ⟨by omega,h2,rfl⟩)
  ·rw[if_neg h2];exact Or.inr (Or.inr ⟨by omega,by omega,rfl⟩)
theorem PM(a b:ByteArray):cS a b=-1∨cS a b=0∨cS a b=1:=by
 rcases qJ a b with h | h | h
 ·exact Or.inl h.1
 ·exact Or.inr (Or.inl h.1)
 ·exact Or.inr (Or.inr h.1)
theorem PN(k n:Int)(s:ByteArray)(k' n':Int)(s':ByteArray):cv k n s k' n' s'=-1∨cv k n s k' n' s'=0∨cv k n s k' n' s'=1:=by
 unfold cv;have h1:=qK (c3 k k') (c3 n n') (cS s s');have h2:=kR k k';have h3:=kR n n';have h4:=PM s s';omega
theorem TM(k n:Int)(s:ByteArray)(k' n':Int)(s':ByteArray):cv k' n' s' k n s=- cv k n s k' n' s':=by
 unfold cv;have h1:=qK (c3 k k') (c3 n n') (cS s s');have h2:=kR k k';have h3:=kR n n';have h4:=TL s s';have g1:=qK (c3 k' k) (c3 n' n) (cS s' s);have g2:=kR k' k;have g3:=kR n' n;omega
def ls(k n:Int)(s:ByteArray)(k' n':Int)(s':ByteArray):Bool:=if (k != k')=true then decide (k<k') else if n<n' then true else if (n==n')=true then Op.bytesLess s.toList s'.toList else false
theorem ls_cv(k n:Int)(s:ByteArray)(k' n':Int)(s':ByteArray):ls k n s k' n' s'=decide (cv k n s k' n' s'=-1):=by
 unfold ls cv;have h1:=qK (c3 k k') (c3 n n') (cS s s');have h2:=kR k k';have h3:=kR n n';by_cases e:k=k'
 ·rw[if_neg (by simpa using e)]
  by_cases f:n<n'
  ·rw[if_pos f];symm;rw[decide_eq_true_eq];omega
  ·rw[if_neg f]
   by_cases g:n=n'
   ·rw[if_pos (by simpa using g)]
    have h4:or3 (c3 k k') (c3 n n') (cS s s')=cS s s':=by omega
    rw[h4];rcases qJ s s' with ⟨q1,q2,_⟩ | ⟨q1,rfl⟩ | ⟨q1,q2,_⟩
    ·rw[q1,q2];rfl
    ·rw[q1,tu];rfl
    ·rw[q1,q2];rfl
   ·rw[if_neg (by simpa using g)];symm;rw[decide_eq_false_iff_not];omega
 ·rw[if_pos (by simpa using e)]
  rw[decide_eq_decide];omega
theorem PO(k n:Int)(s:ByteArray)(k' n':Int)(s':ByteArray)(w:World):Calls Tryz.prog 61 #[.agg #[.int .u8 k,.int .i64 n,.string s],.agg #[.int .u8 k',.int .i64 n',.string s']] w fun e w'=>e=.returned (.bool (ls k n s k' n' s'))/\Below w.heap.size w w':=by
 unfold ls;by_cases h1:(k != k')=true
 ·rw[if_pos h1]
  go_enter Tryz.func61,Tryz.ntmps61
  go_wp2;go_ret
  exact⟨rfl,((ZQ _ _).alloc (ZR _) _).alloc (by simp) _⟩
 ·rw[if_neg h1]
  have h1':(k != k')=false:=by simpa using h1
  clear h1;by_cases h2:n<n'
  ·rw[if_pos h2]
   go_enter Tryz.func61,Tryz.ntmps61
   go_wp2;go_ret
   exact⟨rfl,((ZQ _ _).alloc (ZR _) _).alloc (by simp) _⟩
  ·rw[if_neg h2]
   by_cases h3:(n==n')=true
   ·rw[if_pos h3]
    go_enter Tryz.func61,Tryz.ntmps61
    go_wp2;go_ret
    exact⟨rfl,((ZQ _ _).alloc (ZR _) _).alloc (by simp) _⟩
   ·rw[if_neg h3]
    have h3':(n==n')=false:=by simpa using h3
    clear h3;go_enter Tryz.func61,Tryz.ntmps61
    go_wp2;go_ret
    exact⟨rfl,((ZQ _ _).alloc (ZR _) _).alloc (by simp) _⟩
theorem TN(k n:Int)(s:ByteArray)(k' n':Int)(s':ByteArray)(b:Bool)(hb:ls k n s k' n' s'=b)(w:World):Calls Tryz.prog 61 #[.agg #[.int .u8 k,.int .i64 n,.string s],.agg #[.int .u8 k',.int .i64 n',.string s']] w fun e w'=>e=.returned (.bool b)/\Below w.heap.size w w':=by
 subst hb;exact PO k n s k' n' s' w
theorem kn{x y:Value}{k n k' n':Int}{s s':ByteArray}(hx:Val x k n s)(hy:Val y k' n' s')(w:World):Calls Tryz.prog 105 #[x,y] w fun e w'=>e=.returned (.int .i64 (cv k n s k' n' s'))/\Below w.heap.size w w':=C9 hx hy w
end Go.Proofs.YtpljdjmpamjkhaaGreatDoor
