import Derived.Test.YtpljdjmpamjkhaaGreatDoorXad
import Derived.Test.YtpljdjmpamjkhaaGreatDoorXah
set_option linter.unusedVariables false
set_option linter.unusedSimpArgs false
set_option maxHeartbeats 2000000
set_option maxRecDepth 100000
namespace Go.Proofs.YtpljdjmpamjkhaaGreatDoor
open Go.RowKit Go.Lib
theorem cmpK(a b:Int)(w:World):Calls Tryz.prog 150 #[.int .u8 a,.int .u8 b] w fun e w'=>e=.returned (.int .i64 (if a<b then -1 else if b<a then 1 else 0))/\w'=w:=by
 by_cases h1:a<b
 ·go_enter Tryz.func150,Tryz.ntmps150
  go_wp2;go_ret
  exact⟨rfl,rfl⟩
 ·by_cases h2:b<a
  ·go_enter Tryz.func150,Tryz.ntmps150
   go_wp2;go_ret
   exact⟨rfl,rfl⟩
  ·go_enter Tryz.func150,Tryz.ntmps150
   go_wp2;go_ret
   exact⟨rfl,rfl⟩
theorem cmpI(a b:Int)(w:World):Calls Tryz.prog 151 #[.int .i64 a,.int .i64 b] w fun e w'=>e=.returned (.int .i64 (if a<b then -1 else if b<a then 1 else 0))/\w'=w:=by
 by_cases h1:a<b
 ·go_enter Tryz.func151,Tryz.ntmps151
  go_wp2;go_ret
  exact⟨rfl,rfl⟩
 ·by_cases h2:b<a
  ·go_enter Tryz.func151,Tryz.ntmps151
   go_wp2;go_ret
   exact⟨rfl,rfl⟩
  ·go_enter Tryz.func151,Tryz.ntmps151
   go_wp2;go_ret
   exact⟨rfl,rfl⟩
theorem WV(a b:ByteArray)(w:World)(h:Op.bytesLess a.toList b.toList=true):Calls Tryz.prog 152 #[.string a,.string b] w fun e w'=>e=.returned (.int .i64 (-1))/\w'=w:=by
 go_enter Tryz.func152,Tryz.ntmps152
 go_wp2;go_ret
 exact⟨rfl,rfl⟩
theorem WX(a b:ByteArray)(w:World)(h:Op.bytesLess a.toList b.toList=false)(h2:(a.toList==b.toList)=true):Calls Tryz.prog 152 #[.string a,.string b] w fun e w'=>e=.returned (.int .i64 0)/\w'=w:=by
 go_enter Tryz.func152,Tryz.ntmps152
 go_wp2;go_ret
 exact⟨rfl,rfl⟩
theorem WY(a b:ByteArray)(w:World)(h:Op.bytesLess a.toList b.toList=false)(h2:(a.toList==b.toList)=false):Calls Tryz.prog 152 #[.string a,.string b] w fun e w'=>e=.returned (.int .i64 1)/\w'=w:=by
 go_enter Tryz.func152,Tryz.ntmps152
 go_wp2;go_ret
 exact⟨rfl,rfl⟩
def c3(a b:Int):Int:=if a<b then -1 else if b<a then 1 else 0
def cS(a b:ByteArray):Int:=if Op.bytesLess a.toList b.toList=true then -1 else if (a.toList==b.toList)=true then 0 else 1
def or3(x y z:Int):Int:=if x≠0 then x else if y≠0 then y else z
theorem SI(a b:Int)(w:World):Calls Tryz.prog 150 #[.int .u8 a,.int .u8 b] w fun e w'=>e=.returned (.int .i64 (c3 a b))/\w'=w:=by
 unfold c3;exact cmpK a b w
theorem SK(a b:Int)(w:World):Calls Tryz.prog 151 #[.int .i64 a,.int .i64 b] w fun e w'=>e=.returned (.int .i64 (c3 a b))/\w'=w:=by
 unfold c3;exact cmpI a b w
theorem SL(a b:ByteArray)(w:World):Calls Tryz.prog 152 #[.string a,.string b] w fun e w'=>e=.returned (.int .i64 (cS a b))/\w'=w:=by
 unfold cS;by_cases h:Op.bytesLess a.toList b.toList=true
 ·rw[jdu h];exact WV a b w h
 ·rw[jdt h]
  by_cases h2:(a.toList==b.toList)=true
  ·rw[jdu h2];exact WX a b w (by simpa using h) h2
  ·rw[jdt h2];exact WY a b w (by simpa using h) (by simpa using h2)
theorem or_x(g:Nat)(x:Int)(w:World)(h0:w.cell? ⟨g,0,none⟩=some (.int .i64 x))(hx:(x != 0)=true):Calls Tryz.prog 149 #[.slice (some ⟨g,0,none⟩) 3 3] w fun e w'=>e=.returned (.int .i64 x)/\w'=w:=by
 go_enter Tryz.func149,Tryz.ntmps149
 go_wp2;refine wp_loop_rounds 1 ?_;rw[rounds_succ];go_wp2;go_ret
 exact⟨rfl,rfl⟩
theorem or_y(g:Nat)(y:Int)(w:World)(h0:w.cell? ⟨g,0,none⟩=some (.int .i64 0))(h1:w.cell? ⟨g,1,none⟩=some (.int .i64 y))(hy:(y != 0)=true):Calls Tryz.prog 149 #[.slice (some ⟨g,0,none⟩) 3 3] w fun e w'=>e=.returned (.int .i64 y)/\w'=w:=by
 go_enter Tryz.func149,Tryz.ntmps149
 go_wp2;refine wp_loop_rounds 2 ?_;rw[rounds_succ];go_wp2;rw[rounds_succ];go_wp2;go_ret
 exact⟨rfl,rfl⟩
theorem or_z(g:Nat)(z:Int)(w:World)(h0:w.cell? ⟨g,0,none⟩=some (.int .i64 0))(h1:w.cell? ⟨g,1,none⟩=some (.int .i64 0))(h2:w.cell? ⟨g,2,none⟩=some (.int .i64 z))(hz:(z != 0)=true):Calls Tryz.prog 149 #[.slice (some ⟨g,0,none⟩) 3 3] w fun e w'=>e=.returned (.int .i64 z)/\w'=w:=by
 go_enter Tryz.func149,Tryz.ntmps149
 go_wp2;refine wp_loop_rounds 3 ?_;rw[rounds_succ];go_wp2;rw[rounds_succ];go_wp2;rw[rounds_succ];go_wp2;go_ret
 exact⟨rfl,rfl⟩
theorem WZ(g:Nat)(w:World)(h0:w.cell? ⟨g,0,none⟩=some (.int .i64 0))(h1:w.cell? ⟨g,1,none⟩=some (.int .i64 0))(h2:w.cell? ⟨g,2,none⟩=some (.int .i64 0)):Calls Tryz.prog 149 #[.slice (some ⟨g,0,none⟩) 3 3] w fun e w'=>e=.returned (.int .i64 0)/\w'=w:=by
 go_enter Tryz.func149,Tryz.ntmps149
 go_wp2;refine wp_loop_rounds 4 ?_;rw[rounds_succ];go_wp2;rw[rounds_succ];go_wp2;rw[rounds_succ];go_wp2;rw[rounds_succ];go_wp2;go_ret
 exact⟨rfl,rfl⟩
theorem jaA(g:Nat)(x y z:Int)(w:World)(h0:w.cell? ⟨g,0,none⟩=some (.int .i64 x))(h1:w.cell? ⟨g,1,none⟩=some (.int .i64 y))(h2:w.cell? ⟨g,2,none⟩=some (.int .i64 z)):Calls Tryz.prog 149 #[.slice (some ⟨g,0,none⟩) 3 3] w fun e w'=>e=.returned (.int .i64 (or3 x y z))/\w'=w:=by
 unfold or3;by_cases hx:x≠0
 ·rw[jdu hx];exact or_x g x w h0 (by simpa using hx)
 ·rw[jdt hx]
  obtain rfl:x=0:=by omega
  by_cases hy:y≠0
  ·rw[jdu hy];exact or_y g y w h0 h1 (by simpa using hy)
  ·rw[jdt hy]
   obtain rfl:y=0:=by omega
   by_cases hz:z=0
   ·subst hz;exact WZ g w h0 h1 h2
   ·exact or_z g z w h0 h1 h2 (by simpa using hz)
theorem DM{x y:Value}{k n k' n':Int}{s s':ByteArray}(hx:Val x k n s)(hy:Val y k' n' s')(w:World):Calls Tryz.prog 105 #[x,y] w fun e w'=>e=.returned (.int .i64 (or3 (c3 k k') (c3 n n') (cS s s')))/\Below w.heap.size w w':=by
 go_enter Tryz.func105,Tryz.ntmps105
 go_wp2_with fail;refine(pK hx _).mono ?_;rintro e w1 ⟨rfl,aH⟩;go_wp2_with fail;refine(pK hy _).mono ?_;rintro e w2 ⟨rfl,aE⟩;have cP:=aH.size;have bv:w1.heap.size<w2.heap.size:=by have:=aE.size;simp at this;omega
 obtain⟨jT,dD⟩:=gq aE;have p0:=jT w1.heap.size 0 (by simp);have p1:=jT w1.heap.size 1 (by simp);have p2:=jT w1.heap.size 2 (by simp);clear jT dD;simp at p0 p1 p2
 go_wp2_with fail;obtain⟨W,hW⟩:∃ W:World,W=w2.alloc (Obj.cells #[Value.int IntKind.u8 k',Value.int IntKind.i64 n',Value.string s'] 52):=⟨_,rfl⟩;have hbW:Below w2.heap.size w2 W:=by rw[hW];exact(jdv _ _).alloc (jdw _) _
 have a0:W.cell? ⟨w1.heap.size,0,none⟩=some (.int .u8 k):=(hbW.cell (p:=⟨w1.heap.size,0,none⟩) bv).trans p0;have a1:W.cell? ⟨w1.heap.size,1,none⟩=some (.int .i64 n):=(hbW.cell (p:=⟨w1.heap.size,1,none⟩) bv).trans p1;have a2:W.cell? ⟨w1.heap.size,2,none⟩=some (.string s):=(hbW.cell (p:=⟨w1.heap.size,2,none⟩) bv).trans p2;have b0:W.cell? ⟨w2.heap.size,0,none⟩=some (.int .u8 k'):=by rw[hW];simp
 have b1:W.cell? ⟨w2.heap.size,1,none⟩=some (.int .i64 n'):=by rw[hW];simp
 have b2:W.cell? ⟨w2.heap.size,2,none⟩=some (.string s'):=by rw[hW];simp
 have hzW:w2.heap.size<W.heap.size:=by rw[hW];simp
 have hzV:w1.heap.size<W.heap.size:=by omega
 have HB:Below w.heap.size w W:=by rw[hW];exact(((aH.alloc (by omega) _).trans (aE.mono (by simp;omega))).alloc (by omega) _)
 have HH:jfp (Below w.heap.size w W):=HB;clear HB;rw[← hW];clear hW hbW p0 p1 p2 aH aE hx hy;go_region_held3 (fun w'=>w'.cell? ⟨w1.heap.size,0,none⟩=some (.int .u8 k)/\w'.cell? ⟨w1.heap.size,1,none⟩=some (.int .i64 n)/\w'.cell? ⟨w1.heap.size,2,none⟩=some (.string s)/\w'.cell? ⟨w2.heap.size,0,none⟩=some (.int .u8 k')/\w'.cell? ⟨w2.heap.size,1,none⟩=some (.int .i64 n')/\w'.cell? ⟨w2.heap.size,2,none⟩=some (.string s')) (go_keep) (first | (go_at_call 150;refine(SI _ _ _).mono ?_;rintro e w' ⟨rfl,rfl⟩) | (go_at_call 151;refine(SK _ _ _).mono ?_;rintro e w' ⟨rfl,rfl⟩) | (go_at_call 152;refine(SL _ _ _).mono ?_;rintro e w' ⟨rfl,rfl⟩) | (go_at_call 149;refine(jaA _ (c3 k k') (c3 n n') (cS s s') _ ?_ ?_ ?_).mono ?_;(simp);(simp);(simp);rintro e w' ⟨rfl,rfl⟩))
 all_goals go_wp2
 all_goals go_ret
 all_goals refine⟨rfl,?_⟩
 all_goals exact(HH.o.alloc (by have:=HH.o.size;omega) _).drew
theorem kA(k n:Int)(s:ByteArray)(w:World):Calls Tryz.prog 266 #[.agg #[.int .u8 k,.int .i64 n,.string s]] w fun e w'=>e=.returned (.bool (jA k n))/\Below w.heap.size w w':=by
 unfold jA;by_cases h1:(k==1)=true
 ·go_enter Tryz.func266,Tryz.ntmps266
  go_wp2;go_ret
  exact⟨rfl,(jdv _ _).alloc (jdw _) _⟩
 ·by_cases h2:(k==2)=true
  ·by_cases h3:(n==0)=true
   ·go_enter Tryz.func266,Tryz.ntmps266
    go_wp2;go_ret
    exact⟨rfl,(jdv _ _).alloc (jdw _) _⟩
   ·go_enter Tryz.func266,Tryz.ntmps266
    go_wp2;go_ret
    exact⟨rfl,(jdv _ _).alloc (jdw _) _⟩
  ·go_enter Tryz.func266,Tryz.ntmps266
   go_wp2;go_ret
   exact⟨rfl,(jdv _ _).alloc (jdw _) _⟩
theorem Hh{v:Value}{k n:Int}{s:ByteArray}(h:Val v k n s)(w:World):Calls Tryz.prog 144 #[v] w fun e w'=>e=.returned (.int .u8 k)/\w'=w:=by
 have t1:=Av;have t2:=Gh;have t3:=Aw;have t4:=Gi;have t5:=Gj;have t6:=Ax;have t7:=Gk;have t8:=Gl;have t9:=Gm;rcases h with ⟨rfl,rfl,rfl,rfl⟩ | ⟨rfl,rfl,rfl⟩ | ⟨b,rfl,rfl,rfl,rfl⟩ | ⟨rfl,rfl,rfl⟩
 all_goals
  go_enter Tryz.func144,Tryz.ntmps144
  go_wp2;go_ret
  exact⟨rfl,rfl⟩
theorem Hi{v:Value}{k n:Int}{s:ByteArray}(h:Val v k n s)(w:World):Calls Tryz.prog 100 #[v] w fun e w'=>e=.returned (.int .u8 k)/\w'=w:=by
 go_enter Tryz.func100,Tryz.ntmps100
 go_wp2_with fail;refine(Hh h _).mono ?_;rintro e w1 ⟨rfl,rfl⟩;go_wp2;go_ret
 exact⟨rfl,rfl⟩
theorem Hj(k n:Int)(s:ByteArray)(w:World)(h1:3<k):Calls Tryz.prog 238 #[.agg #[.int .u8 k,.int .i64 n,.string s]] w fun e w'=>e=.returned (.int .i64 10)/\Below w.heap.size w w':=by
 go_enter Tryz.func238,Tryz.ntmps238
 go_wp2;go_ret
 exact⟨rfl,(jdv _ _).alloc (jdw _) _⟩
theorem Hk(k n:Int)(s:ByteArray)(w:World)(h1:k<=3)(h2:(k != 3)=true)(h3:s.toList.isEmpty=false):Calls Tryz.prog 238 #[.agg #[.int .u8 k,.int .i64 n,.string s]] w fun e w'=>e=.returned (.int .i64 1)/\Below w.heap.size w w':=by
 go_enter Tryz.func238,Tryz.ntmps238
 go_wp2;go_ret
 exact⟨rfl,(jdv _ _).alloc (jdw _) _⟩
theorem Ng(k n:Int)(s:ByteArray)(w:World)(h1:k<=3)(h2:(k != 3)=false∨(k != 3)=true/\s.toList.isEmpty=true)(h3:jA k n=false):Calls Tryz.prog 238 #[.agg #[.int .u8 k,.int .i64 n,.string s]] w fun e w'=>e=.returned (.int .i64 1)/\Below w.heap.size w w':=by
 rcases h2 with h2 | ⟨h2,h4⟩
 all_goals
  go_enter Tryz.func238,Tryz.ntmps238
  go_wp2_with fail;refine(kA _ _ _ _).mono ?_;rw[h3];rintro e w1 ⟨rfl,hb⟩;obtain⟨hc,hf⟩:=gq hb;go_wp2;go_ret
  exact⟨rfl,((jdv _ _).alloc (jdw _) _).trans (hb.mono (by simp))⟩
theorem Hl(k n:Int)(s:ByteArray)(w:World)(h1:k<=3)(h2:(k != 3)=false∨(k != 3)=true/\s.toList.isEmpty=true)(h3:jA k n=true)(h5:64<(s.size:Int)):Calls Tryz.prog 238 #[.agg #[.int .u8 k,.int .i64 n,.string s]] w fun e w'=>e=.returned (.int .i64 5)/\Below w.heap.size w w':=by
 rcases h2 with h2 | ⟨h2,h4⟩
 all_goals
  go_enter Tryz.func238,Tryz.ntmps238
  go_wp2_with fail;refine(kA _ _ _ _).mono ?_;rw[h3];rintro e w1 ⟨rfl,hb⟩;obtain⟨hc,hf⟩:=gq hb;go_wp2;go_ret
  exact⟨rfl,((jdv _ _).alloc (jdw _) _).trans (hb.mono (by simp))⟩
theorem SN(k n:Int)(s:ByteArray)(w:World)(h1:k<=3)(h2:(k != 3)=false∨(k != 3)=true/\s.toList.isEmpty=true)(h3:jA k n=true)(h5:(s.size:Int)<=64):Calls Tryz.prog 238 #[.agg #[.int .u8 k,.int .i64 n,.string s]] w fun e w'=>e=.returned (.int .i64 0)/\Below w.heap.size w w':=by
 rcases h2 with h2 | ⟨h2,h4⟩
 all_goals
  go_enter Tryz.func238,Tryz.ntmps238
  go_wp2_with fail;refine(kA _ _ _ _).mono ?_;rw[h3];rintro e w1 ⟨rfl,hb⟩;obtain⟨hc,hf⟩:=gq hb;go_wp2;go_ret
  exact⟨rfl,((jdv _ _).alloc (jdw _) _).trans (hb.mono (by simp))⟩
theorem zz(k n:Int)(s:ByteArray)(w:World):Calls Tryz.prog 238 #[.agg #[.int .u8 k,.int .i64 n,.string s]] w fun e w'=>e=.returned (.int .i64 (flt k n s))/\Below w.heap.size w w':=by
 unfold flt;by_cases h1:3<k
 ·rw[jdu h1];exact Hj k n s w h1
 ·rw[jdt h1]
  by_cases h2:tx k s=true
  ·rw[jdu h2];exact Hk k n s w (by omega) (Ay h2).1 (Ay h2).2
  ·rw[jdt h2]
   have h2':=vC (by simpa using h2);by_cases h3:jA k n=false
   ·rw[jdu h3];exact Ng k n s w (by omega) h2' h3
   ·rw[jdt h3]
    by_cases h4:64<(s.size:Int)
    ·rw[jdu h4];exact Hl k n s w (by omega) h2' (by simpa using h3) h4
    ·rw[jdt h4];exact SN k n s w (by omega) h2' (by simpa using h3) (by omega)
theorem jaB(k n:Int)(s:ByteArray)(h:(flt k n s != 0)=true)(w:World):Calls Tryz.prog 217 #[.agg #[.int .u8 k,.int .i64 n,.string s]] w fun e w'=>e=.returned (.tuple #[.nilIface,.int .i64 (flt k n s)])/\Below w.heap.size w w':=by
 go_enter Tryz.func217,Tryz.ntmps217
 go_wp2_with fail;refine(zz _ _ _ _).mono ?_;rintro e w1 ⟨rfl,hb⟩;go_wp2_with fail;go_ret2
 exact⟨rfl,((jdv _ _).alloc (jdw _) _).trans (hb.mono (by simp))⟩
theorem Xa(k n:Int)(s:ByteArray)(h0:0<=k)(h:flt k n s=0)(w:World):Calls Tryz.prog 217 #[.agg #[.int .u8 k,.int .i64 n,.string s]] w fun e w'=>(∃ v,e=.returned (.tuple #[v,.int .i64 0])/\Val v k n s)/\Below w.heap.size w w':=by
 have hf:=zz k n s;rw[h]at hf;have HF:jfp (∀ w:World,Calls Tryz.prog 238 #[.agg #[.int .u8 k,.int .i64 n,.string s]] w fun e w'=>e=.returned (.int .i64 0)/\Below w.heap.size w w'):=hf;clear hf;obtain⟨rfl,rfl,rfl⟩ | ⟨rfl,rfl⟩ | ⟨rfl,rfl,rfl⟩ | ⟨rfl,rfl,rfl⟩ | ⟨rfl,rfl,hs⟩:=vD h0 h
 all_goals clear h h0
 ·go_enter Tryz.func217,Tryz.ntmps217
  go_wp2_with fail;refine(HF.o _).mono ?_;rintro e w1 ⟨rfl,hb⟩;obtain⟨hc,hf⟩:=gq hb;go_wp2_with fail;go_ret2
  exact⟨⟨_,rfl,Or.inl ⟨rfl,rfl,rfl,rfl⟩⟩,((jdv _ _).alloc (jdw _) _).trans (hb.mono (by simp))⟩
 ·go_enter Tryz.func217,Tryz.ntmps217
  go_wp2_with fail;refine(HF.o _).mono ?_;rintro e w1 ⟨rfl,hb⟩;obtain⟨hc,hf⟩:=gq hb;go_wp2_with fail;go_ret2
  exact⟨⟨_,rfl,Or.inr (Or.inl ⟨rfl,rfl,rfl⟩)⟩,((jdv _ _).alloc (jdw _) _).trans (hb.mono (by simp))⟩
 ·go_enter Tryz.func217,Tryz.ntmps217
  go_wp2_with fail;refine(HF.o _).mono ?_;rintro e w1 ⟨rfl,hb⟩;obtain⟨hc,hf⟩:=gq hb;go_wp2_with fail;go_ret2
  exact⟨⟨_,rfl,Or.inr (Or.inr (Or.inl ⟨false,rfl,rfl,rfl,rfl⟩))⟩,((jdv _ _).alloc (jdw _) _).trans (hb.mono (by simp))⟩
 ·go_enter Tryz.func217,Tryz.ntmps217
  go_wp2_with fail;refine(HF.o _).mono ?_;rintro e w1 ⟨rfl,hb⟩;obtain⟨hc,hf⟩:=gq hb;go_wp2_with fail;go_ret2
  exact⟨⟨_,rfl,Or.inr (Or.inr (Or.inl ⟨true,rfl,rfl,rfl,rfl⟩))⟩,((jdv _ _).alloc (jdw _) _).trans (hb.mono (by simp))⟩
 ·go_enter Tryz.func217,Tryz.ntmps217
  go_wp2_with fail;refine(HF.o _).mono ?_;rintro e w1 ⟨rfl,hb⟩;obtain⟨hc,hf⟩:=gq hb;go_wp2_with fail;go_ret2
  exact⟨⟨_,rfl,Or.inr (Or.inr (Or.inr ⟨rfl,rfl,rfl⟩))⟩,((jdv _ _).alloc (jdw _) _).trans (hb.mono (by simp))⟩
theorem jaC(b:Bool)(w:World):Calls Tryz.prog 221 #[.bool b] w fun e w'=>e=.returned (.int .u8 (if b then 2 else 0))/\w'=w:=by
 cases b
 all_goals
  go_enter Tryz.func221,Tryz.ntmps221
  go_wp2;go_ret
  exact⟨rfl,rfl⟩
theorem tR(l:List UInt8):Op.bytesLess l l=false:=by
 induction l with
 | nil=>rfl
 | cons a l ih=>simp[Op.bytesLess,ih,UInt8.lt_irrefl]
theorem wN:(l m:List UInt8)->Op.bytesLess l m=true->Op.bytesLess m l=false
 | [],[],h=>by simp[Op.bytesLess]at h
 | [],_::_,_=>by simp[Op.bytesLess]
 | _::_,[],h=>by simp[Op.bytesLess]at h
 | a::l,b::m,h=>by
  have ih:=wN l m;simp only[Op.bytesLess,Bool.or_eq_true,jei,Bool.and_eq_true,beq_iff_eq]at h;simp only[Op.bytesLess,Bool.or_eq_false_iff,je0,Bool.and_eq_false_iff,jdG];rcases h with h | ⟨rfl,h⟩
  ·refine⟨fun h2=>UInt8.lt_irrefl _ (UInt8.lt_trans h h2),Or.inl ?_⟩
   rintro rfl;exact UInt8.lt_irrefl _ h
  ·exact⟨UInt8.lt_irrefl _,Or.inr (ih h)⟩
theorem wO:(l m:List UInt8)->Op.bytesLess l m=false->Op.bytesLess m l=false->l=m
 | [],[],_,_=>rfl
 | [],_::_,h,_=>by simp[Op.bytesLess]at h
 | _::_,[],_,h=>by simp[Op.bytesLess]at h
 | a::l,b::m,h,h2=>by
  have ih:=wO l m;simp only[Op.bytesLess,Bool.or_eq_false_iff,je0,Bool.and_eq_false_iff,jdG]at h h2;have e:a=b:=UInt8.le_antisymm (UInt8.not_lt.mp h2.1) (UInt8.not_lt.mp h.1);subst e;rw[ih (by rcases h.2 with h | h;exact absurd rfl h;exact h) (by rcases h2.2 with h | h;exact absurd rfl h;exact h)]
theorem zA{a b:ByteArray}(h:a.toList=b.toList):a=b:=by
 rw[ByteArray.toList_eq,ByteArray.toList_eq]at h;cases a with
 | mk x=>cases b with
  | mk y=>congr;exact Array.toList_inj.mp h
theorem re(a b:ByteArray):(cS a b=-1/\Op.bytesLess a.toList b.toList=true/\Op.bytesLess b.toList a.toList=false/\a≠b)∨(cS a b=0/\a=b)∨(cS a b=1/\Op.bytesLess a.toList b.toList=false/\Op.bytesLess b.toList a.toList=true/\a≠b):=by
 unfold cS;cases h1:Op.bytesLess a.toList b.toList
 ·by_cases h2:a=b
  ·subst h2;exact Or.inr (Or.inl (by simp))
  ·have h3:(a.toList==b.toList)=false:=by
    rw[jdG];exact fun h=>h2 (zA h)
   refine Or.inr (Or.inr ⟨by simp[h3],rfl,?_,h2⟩);cases h4:Op.bytesLess b.toList a.toList
   ·exact absurd (zA (wO _ _ h1 h4)) h2
   ·rfl
 ·refine Or.inl ⟨by simp,rfl,wN _ _ h1,?_⟩
  rintro rfl;rw[tR]at h1;cases h1
theorem Xb(a b:ByteArray):cS b a=- cS a b:=by
 rcases re a b with ⟨h1,h2,h3,h4⟩ | ⟨h1,rfl⟩ | ⟨h1,h2,h3,h4⟩
 ·rcases re b a with ⟨g1,g2,_⟩ | ⟨g1,rfl⟩ | ⟨g1,_⟩
  ·rw[h3]at g2;cases g2
  ·exact absurd rfl h4
  ·omega
 ·omega
 ·rcases re b a with ⟨g1,_⟩ | ⟨g1,rfl⟩ | ⟨g1,_,g2,_⟩
  ·omega
  ·exact absurd rfl h4
  ·rw[h2]at g2;cases g2
def cv(k n:Int)(s:ByteArray)(k' n':Int)(s':ByteArray):Int:=or3 (c3 k k') (c3 n n') (cS s s')
theorem lh(a b:Int):(c3 a b=-1/\a<b)∨(c3 a b=0/\a=b)∨(c3 a b=1/\b<a):=by
 unfold c3;by_cases h:a<b
 ·rw[jdu h];omega
 ·rw[jdt h]
  by_cases h2:b<a
  ·rw[jdu h2];omega
  ·rw[jdt h2];omega
theorem rg(x y z:Int):(x≠0/\or3 x y z=x)∨(x=0/\y≠0/\or3 x y z=y)∨(x=0/\y=0/\or3 x y z=z):=by
 unfold or3;by_cases h:x≠0
 ·rw[jdu h];exact Or.inl ⟨h,rfl⟩
 ·rw[jdt h]
  by_cases h2:y≠0
  ·rw[jdu h2];exact Or.inr (Or.inl ⟨by omega,h2,rfl⟩)
  ·rw[jdt h2];exact Or.inr (Or.inr ⟨by omega,by omega,rfl⟩)
theorem SO(a b:ByteArray):cS a b=-1∨cS a b=0∨cS a b=1:=by
 rcases re a b with h | h | h
 ·exact Or.inl h.1
 ·exact Or.inr (Or.inl h.1)
 ·exact Or.inr (Or.inr h.1)
theorem SP(k n:Int)(s:ByteArray)(k' n':Int)(s':ByteArray):cv k n s k' n' s'=-1∨cv k n s k' n' s'=0∨cv k n s k' n' s'=1:=by
 unfold cv;have h1:=rg (c3 k k') (c3 n n') (cS s s');have h2:=lh k k';have h3:=lh n n';have h4:=SO s s';omega
theorem Xc(k n:Int)(s:ByteArray)(k' n':Int)(s':ByteArray):cv k' n' s' k n s=- cv k n s k' n' s':=by
 unfold cv;have h1:=rg (c3 k k') (c3 n n') (cS s s');have h2:=lh k k';have h3:=lh n n';have h4:=Xb s s';have g1:=rg (c3 k' k) (c3 n' n) (cS s' s);have g2:=lh k' k;have g3:=lh n' n;omega
def ls(k n:Int)(s:ByteArray)(k' n':Int)(s':ByteArray):Bool:=if (k != k')=true then decide (k<k') else if n<n' then true else if (n==n')=true then Op.bytesLess s.toList s'.toList else false
theorem ls_cv(k n:Int)(s:ByteArray)(k' n':Int)(s':ByteArray):ls k n s k' n' s'=decide (cv k n s k' n' s'=-1):=by
 unfold ls cv;have h1:=rg (c3 k k') (c3 n n') (cS s s');have h2:=lh k k';have h3:=lh n n';by_cases e:k=k'
 ·rw[jdt (by simpa using e)]
  by_cases f:n<n'
  ·rw[jdu f];symm;rw[jei];omega
  ·rw[jdt f]
   by_cases g:n=n'
   ·rw[jdu (by simpa using g)]
    have h4:or3 (c3 k k') (c3 n n') (cS s s')=cS s s':=(by omega);rw[h4];rcases re s s' with ⟨q1,q2,_⟩ | ⟨q1,rfl⟩ | ⟨q1,q2,_⟩
    ·rw[q1,q2];rfl
    ·rw[q1,tR];rfl
    ·rw[q1,q2];rfl
   ·rw[jdt (by simpa using g)];symm;rw[je0];omega
 ·rw[jdu (by simpa using e)]
  rw[decide_eq_decide];omega
theorem SQ(k n:Int)(s:ByteArray)(k' n':Int)(s':ByteArray)(w:World):Calls Tryz.prog 61 #[.agg #[.int .u8 k,.int .i64 n,.string s],.agg #[.int .u8 k',.int .i64 n',.string s']] w fun e w'=>e=.returned (.bool (ls k n s k' n' s'))/\Below w.heap.size w w':=by
 unfold ls;by_cases h1:(k != k')=true
 ·rw[jdu h1]
  go_enter Tryz.func61,Tryz.ntmps61
  go_wp2;go_ret
  exact⟨rfl,((jdv _ _).alloc (jdw _) _).alloc (by simp) _⟩
 ·rw[jdt h1]
  have h1':(k != k')=false:=by simpa using h1
  clear h1;by_cases h2:n<n'
  ·rw[jdu h2]
   go_enter Tryz.func61,Tryz.ntmps61
   go_wp2;go_ret
   exact⟨rfl,((jdv _ _).alloc (jdw _) _).alloc (by simp) _⟩
  ·rw[jdt h2]
   by_cases h3:(n==n')=true
   ·rw[jdu h3]
    go_enter Tryz.func61,Tryz.ntmps61
    go_wp2;go_ret
    exact⟨rfl,((jdv _ _).alloc (jdw _) _).alloc (by simp) _⟩
   ·rw[jdt h3]
    have h3':(n==n')=false:=by simpa using h3
    clear h3;go_enter Tryz.func61,Tryz.ntmps61
    go_wp2;go_ret
    exact⟨rfl,((jdv _ _).alloc (jdw _) _).alloc (by simp) _⟩
theorem Xd(k n:Int)(s:ByteArray)(k' n':Int)(s':ByteArray)(b:Bool)(hb:ls k n s k' n' s'=b)(w:World):Calls Tryz.prog 61 #[.agg #[.int .u8 k,.int .i64 n,.string s],.agg #[.int .u8 k',.int .i64 n',.string s']] w fun e w'=>e=.returned (.bool b)/\Below w.heap.size w w':=by
 subst hb;exact SQ k n s k' n' s' w
theorem kB{x y:Value}{k n k' n':Int}{s s':ByteArray}(hx:Val x k n s)(hy:Val y k' n' s')(w:World):Calls Tryz.prog 105 #[x,y] w fun e w'=>e=.returned (.int .i64 (cv k n s k' n' s'))/\Below w.heap.size w w':=DM hx hy w
open Go.Op (bytesLess)
theorem rh{w:World}{B:Nat}{cs:Array Value}{l:List UInt8}(hB:B<=w.heap.size)(hl:l.length<=4)(h:cs.toList=aX l) :
  (w.alloc (.cells cs 5)).ownsRow B 5 1 (.slice (some ⟨w.heap.size,0,none⟩) l.length l.length) l.length (aX l):=by
 rw[← h];have hs:cs.size=l.length*1:=by rw[← Array.length_toList,h];simp[aX]
 exact jeG w cs l.length hB (by unfold maxLen;omega) hs
theorem Nh(c:Nat)(h:c<=1114111)(w:World) :
  Calls Tryz.prog 109 #[.int .i64 (c:Int)] w fun e w'=>(∃ v,e=.returned v/\w'.ownsRow w.heap.size 5 1 v (dT c).length (aX (dT c)))/\Below w.heap.size w w':=by
 by_cases h1:(c:Int)<128
 ·have he:dT c=[bt c]:=by unfold dT;rw[jdu (by omega)]
  rw[he];have e0:=cD (n:=c) (by omega);have HE:=ae e0;clear he e0;go_enter Tryz.func109,Tryz.ntmps109
  go_wp2_with fail;go_ret
  refine⟨⟨_,rfl,?_⟩,(jdv _ _).alloc (jdw _) _⟩;exact rh (l:=[bt c]) (jdw _) (by simp) (by simp[aX,HE.o])
 ·by_cases h2:(c:Int)<2048
  ·have he:dT c=[bt (192+c / 64),bt (128+c % 64)]:=by unfold dT;rw[jdt (by omega),jdu (by omega)]
   rw[he];have HE:=ae (And.intro (cD (n:=192+c / 64) (by omega)) (cD (n:=128+c % 64) (by omega)));clear he;go_enter Tryz.func109,Tryz.ntmps109
   go_wp2_with fail;go_ret
   refine⟨⟨_,rfl,?_⟩,(jdv _ _).alloc (jdw _) _⟩;refine rh (l:=[bt (192+c / 64),bt (128+c % 64)]) (jdw _) (by simp) ?_;simp[aX,HE.o.1,HE.o.2]
  ·by_cases h3:(c:Int)<65536
   ·have he:dT c=[bt (224+c / 4096),bt (128+c / 64 % 64),bt (128+c % 64)]:=by unfold dT;rw[jdt (by omega),jdt (by omega),jdu (by omega)]
    rw[he];have HE:=ae (And.intro (cD (n:=224+c / 4096) (by omega)) (And.intro (cD (n:=128+c / 64 % 64) (by omega)) (cD (n:=128+c % 64) (by omega))));clear he;go_enter Tryz.func109,Tryz.ntmps109
    go_wp2_with fail;go_ret
    refine⟨⟨_,rfl,?_⟩,(jdv _ _).alloc (jdw _) _⟩;refine rh (l:=[bt (224+c / 4096),bt (128+c / 64 % 64),bt (128+c % 64)]) (jdw _) (by simp) ?_;simp[aX,HE.o.1,HE.o.2.1,HE.o.2.2]
   ·have he:dT c=[bt (240+c / 262144),bt (128+c / 4096 % 64),bt (128+c / 64 % 64),bt (128+c % 64)]:=by unfold dT;rw[jdt (by omega),jdt (by omega),jdt (by omega)]
    rw[he];have HE:=ae (And.intro (cD (n:=240+c / 262144) (by omega)) (And.intro (cD (n:=128+c / 4096 % 64) (by omega)) (And.intro (cD (n:=128+c / 64 % 64) (by omega)) (cD (n:=128+c % 64) (by omega)))));clear he;go_enter Tryz.func109,Tryz.ntmps109
    go_wp2_with fail;go_ret
    refine⟨⟨_,rfl,?_⟩,(jdv _ _).alloc (jdw _) _⟩;refine rh (l:=[bt (240+c / 262144),bt (128+c / 4096 % 64),bt (128+c / 64 % 64),bt (128+c % 64)]) (jdw _) (by simp) ?_;simp[aX,HE.o.1,HE.o.2.1,HE.o.2.2.1,HE.o.2.2.2]
theorem SR{w:World}{B n:Nat}{v:Value}{l:List UInt8}(h:w.ownsRow B 5 1 v n (aX l))(hn:0<l.length):(convert 30 9 v).run Tryz.prog w=.ok (.string ⟨l.toArray⟩) w:=by
 have hl:l.length=n:=by have:=h.1;simpa [aX]using this
 obtain⟨g,cap,rfl,_,_,hc⟩:=(qK h).2 (by omega);rw[← hl];refine run_convert_bytes_back w 30 9 5 ⟨g,0,none⟩ cap l Tryz.underlying30 Tryz.underlying5 Tryz.underlying9 fun j hj=>?_
 have Ke:(⟨g,0,none⟩:Addr).add j=⟨g,j,none⟩:=by unfold Addr.add;split<;>simp_all
 rw[Ke];exact hc j _ (by simp[aX,hj])
def dZ(l:List UInt8)(n:Int):Option (List UInt8) :=
 if dP l=true then (if ((V l).length:Int)<=n then some l else if n<1 then none else upL l n.toNat) else none
theorem Xe(r:Nat):(r+1=55296->nx r=57344)/\(r+1≠55296->nx r=r+1):=by
 unfold nx;constructor
 ·intro h;rw[jdu (by omega)]
 ·intro h;rw[jdt (by omega)]
theorem Ba(s:ByteArray)(n:Int)(hs:s.size<=100000)(w:World) :
  Calls Tryz.prog 63 #[.string s,.int .i64 n] w fun e w'=>Lf e (dZ (lb s) n)/\Below w.heap.size w w':=by
 have hL:=cJ s;have hV:=Cx (lb s);have HX:jfp (dZ (lb s) n=if dP (lb s)=true then (if ((V (lb s)).length:Int)<=n then some (lb s) else if n<1 then none else upL (lb s) n.toNat) else none):=rfl;have HEx:=ae (gP s);have HAp:=ae zd;go_enter Tryz.func63,Tryz.ntmps63
 go_wp2_with fail;refine(oH s hs _).mono ?_;rintro e w1 ⟨⟨a,b,rfl,ha,hb⟩,az⟩;have HB:=ae az;have hz:=az.size;clear az;obtain⟨⟨ad,cap,rfl,_⟩,Ym⟩:=qK ha;obtain⟨⟨ad2,cap2,rfl,_⟩,VO⟩:=qK hb;clear ha hb;have QA:=ae Ym;have QB:=ae VO;clear Ym VO;generalize eQ:dP (lb s)=cl at *;cases cl with
 | false =>
  go_wp2_with fail;go_ret2
  rw[HX.o];exact⟨⟨_,_,rfl,rfl,rfl⟩,HB.o⟩
 | true =>
  by_cases h1:((V (lb s)).length:Int)<=n
  ·rw[jdu h1]at HX
   go_wp2_with fail;go_ret2
   rw[HX.o];exact⟨⟨_,_,rfl,rfl,rfl⟩,HB.o⟩
  ·rw[jdt h1]at HX
   by_cases h2:n<1
   ·rw[jdu h2]at HX
    go_wp2_with fail;go_ret2
    rw[HX.o];exact⟨⟨_,_,rfl,rfl,rfl⟩,HB.o⟩
   ·rw[jdt h2]at HX
    simp only[if_true]at HX;clear eQ;obtain⟨m,rfl⟩:∃ m:Nat,n=(m:Int):=⟨n.toNat,by omega⟩;rw[jd1]at HX;obtain⟨ga,ca,hsa,hga,_,Ym⟩:=QA.o (by omega);obtain⟨gb,cb,hsb,PR,_,VO⟩:=QB.o (by omega);simp only[Value.slice.injEq]at hsa hsb;obtain⟨rfl,_,rfl⟩:=hsa;obtain⟨rfl,_,rfl⟩:=hsb;clear QA QB;have QA:=ae Ym;have QB:=ae VO;clear Ym VO;go_wp2_with fail;go_loopw [9] (fun i w'=>w'=w1/\∃ k:Nat,k<=m/\i=.int .i64 ((k:Int)-1)/\ib (V (lb s)) k=ib (V (lb s)) m) (fun i _=>(intOf i+1).toNat)
    case atStart=>exact⟨rfl,m,jdw _,rfl,rfl⟩
    case round =>
     obtain⟨rfl,k,hk,rfl,uj⟩:=hrel;have HL:=ae uj;clear uj;cases k with
     | zero =>
      go_wp2_with fail;go_ret2
      rw[HX.o,upL,← HL.o];exact⟨⟨_,_,rfl,rfl,rfl⟩,HB.o⟩
     | succ i =>
      have pC:i<(V (lb s)).length:=(by omega);have e1:(((i+1:Nat):Int)-1)=(i:Int):=(by omega);rw[e1];have lp:=QA.o i _ (Ld pC);have jT:=QB.o i _ (Lc pC);have XX:=(Wj _ (lb s) (jdw _) _ (jdA pC)).1;have ex:(V (lb s)).getD i (0,0)=(V (lb s))[i]:=by rw[List.getD_eq_getElem?_getD,List.getElem?_eq_getElem pC];rfl
      have hol:=(uP (l:=lb s) i (by omega)).1;have HGD:=ae ex;clear ex e1;generalize hr:(V (lb s))[i]=u at *;obtain⟨r,wd⟩:=u;clear hr;simp only at *;have hr:r<=1114111:=by unfold vr at XX;omega
      have HVR:=ae XX;clear XX;by_cases aB:(r:Int)<1114111
      ·have HR:jfp (ib (V (lb s)) m=some i):=by
        show ib (V (lb s)) m=some i
        rw[← HL.o,ib,HGD.o,jdt (by simp only;omega)]
       have hnv:=YW HVR.o (by omega);have hnle:nx r<=1114111:=by unfold vr at hnv;omega
       have Ct:=ae (Nh (nx r) hnle);obtain⟨n1,n2⟩:=Xe r;generalize ho:eJ (V (lb s)) i=o at *;have HO:jfp (eJ (V (lb s)) i=o):=ho;clear ho;generalize xM:nx r=c at *;have lE:jfp (nx r=c):=xM;clear xM;obtain⟨E,hE⟩:∃ E:ByteArray,E=⟨(dT c).toArray⟩:=⟨_,rfl⟩;have hEl:lb E=dT c:=by rw[hE];simp[lb]
       have hEs:E.size<=4:=by rw[← cJ,hEl];exact(ip c).2
       have hXs:(s.extract 0 o).size<=100000:=by rw[← cJ,HEx.o];simp;omega
       have Ke:∀ w,(Op.stringOp .add (s.extract 0 o) E).run Tryz.prog w=.ok (.string (s.extract 0 o++E)) w:=fun w=>run_string_add_sum w _ _ (by omega)
       have LT:=ae hEl;have Ga:=ae hE
       have HCV:jfp (∀(w2:World) (B:Nat) (v:Value),w2.ownsRow B 5 1 v (dT c).length (aX (dT c))->(convert 30 9 v).run Tryz.prog w2=.ok (.string E) w2):=fun w2 B v h=>by
        rw[hE];exact SR h (ip c).1
       have BZ:jfp (Lf (.returned (.tuple #[.string (s.extract 0 o++E),.bool true])) (dZ (lb s) (m:Int))):=by
        refine⟨_,_,rfl,?_,?_⟩
        ·rw[HX.o,upL,HR.o];rfl
        ·rw[HX.o,upL,HR.o,HAp.o,HEx.o,hEl,jeF,HO.o,HGD.o,lE.o]
         simp
       clear hE hEl;have hI1:(0:Int)<=(o:Int):=(by omega);have hI2:(o:Int)<=(s.size:Int):=(by omega);by_cases h55:r+1=55296
       ·obtain rfl:=n1 h55
        obtain rfl:r=55295:=by omega
        clear n1 n2;go_wp2_with fail;go_region_with (first | (go_at_call 109;refine(Ct.o _).mono ?_;rintro e w2 ⟨⟨v,rfl,aA⟩,aE⟩;have LM:=HCV.o _ _ _ aA;have lq:=(aE.cell (p:=⟨gb,i,none⟩) PR).trans jT;clear aA))
        all_goals
         go_wp2_with fail;go_ret2
         refine⟨BZ.o,?_⟩;exact HB.o.drew.trans (aE.mono hz)
       ·obtain rfl:=n2 h55
        have h55b:((r:Int)+1==55296)=false:=by simp;omega
        have Ae:((r+1:Nat):Int)=(r:Int)+1:=(by omega);rw[Ae]at Ct;clear Ae;clear n1 n2;go_wp2_with fail;go_region_with (first | (go_at_call 109;refine(Ct.o _).mono ?_;rintro e w2 ⟨⟨v,rfl,aA⟩,aE⟩;have LM:=HCV.o _ _ _ aA;have lq:=(aE.cell (p:=⟨gb,i,none⟩) PR).trans jT;clear aA))
        all_goals
         go_wp2_with fail;go_ret2
         refine⟨BZ.o,?_⟩;exact HB.o.drew.trans (aE.mono hz)
      ·go_wp2_with fail
       go_roundw
       case rel =>
        refine⟨trivial,i,by omega,by go_num,?_⟩;rw[← HL.o,ib,HGD.o,jdu (by simp only;omega)]
       case measure=>simp[intOf]
theorem sM(rs:List Nat):∀ k,(lJ rs).take (eJ (rs.map eu) k)=lJ (rs.take k):=by
 induction rs with
 | nil=>intro k;simp
 | cons c rs ih =>
  intro k;cases k with
  | zero=>simp
  | succ k =>
   have:eJ ((c::rs).map eu) (k+1)=(dT c).length+eJ (rs.map eu) k:=by
    simp[eJ,eu]
   rw[this,flat_cons,jfd,flat_cons,← ih k,List.take_length_add_append]
theorem zB{u:List (Nat×Nat)}{j k:Nat}(h:j<k):(u.take k).getD j (0,0)=u.getD j (0,0):=by
 simp[List.getD_eq_getElem?_getD,List.getElem?_take,h]
theorem Hm(u:List (Nat×Nat))(k:Nat):∀ j,j<=k->ib (u.take k) j=ib u j:=by
 intro j;induction j with
 | zero=>intro _;rfl
 | succ j ih =>
  intro h;simp only[ib];rw[zB (by omega),ih (by omega)]
theorem zC{u:List (Nat×Nat)}{i k:Nat}(h:i<=k):eJ (u.take k) i=eJ u i:=by
 unfold eJ;rw[List.take_take,jew h]
theorem SS{rs:List Nat}(hv:∀ r∈rs,vr r){k:Nat}(hk:k<=rs.length):jN (lJ (rs.take k))=upL (lJ rs) k:=by
 have hv2:∀ r∈rs.take k,vr r:=fun r hr=>hv r (jek hr)
 have e1:=Ao rs hv;have e2:=Ao (rs.take k) hv2;have hl:((rs.take k).map eu).length=k:=by simp;omega
 unfold jN upL;rw[e1,e2,hl,jeT,Hm _ _ _ (jdw _)];cases hg:ib (rs.map eu) k with
 | none=>rfl
 | some i =>
  have hi:=(qL hg).1;simp only[jeF];rw[zB hi,zC (by omega),sM];have h3:=sM (rs.take k) i;rw[jeT,zC (by omega),List.take_take,jew (by omega)]at h3;rw[h3]
theorem Hn{rs:List Nat}(hv:∀ r∈rs,vr r)(n:Int):bW (lJ rs) n=lJ (rs.take n.toNat):=by
 unfold bW;rw[Ao rs hv,sM]
theorem wP(l:List UInt8)(n:Int):gQ l n=dZ l n:=by
 unfold gQ dZ;by_cases hc:dP l=true
 ·rw[jdu hc,jdu hc]
  by_cases h1:((V l).length:Int)<=n
  ·rw[jdu h1,jdu h1]
  ·rw[jdt h1,jdt h1]
   have hl:=QK hc;have hv:=QL l;have bR:(iK l).length=(V l).length:=by simp[iK]
   generalize iK l=rs at *;subst hl;rw[Hn hv,SS hv (by omega)];by_cases h2:n<1
   ·rw[jdu h2]
    have:n.toNat=0:=by omega
    rw[this];rfl
   ·rw[jdt h2]
 ·rw[jdt hc,jdt hc]
 inductive PT where
 | node (op fld:Nat) (c:Cl) (ks:List PT):PT
theorem PT.ind{P:PT->Prop}(h:∀ op f c ks,(∀ k∈ks,P k)->P (.node op f c ks))(t:PT):P t:=by
 refine PT.rec (motive_1:=P) (motive_2:=fun ks=>∀ k∈ks,P k) (fun op f c ks ih=>h op f c ks ih) (fun k hk=>?_) (fun a ks ha ih k hk=>?_) t
 ·simp at hk
 ·rcases jdN.1 hk with rfl | hk
  ·exact ha
  ·exact ih k hk
abbrev B3:=Bool×Bool×Bool
 structure Stt where
 rows:Int
 nulls:Int
 some:Bool
 high:Bool
 lo:Cl
 hi:Cl
def cT(a b:Cl):Int:=cv (a.1:Int) a.2.1 (ak a.2.2) (b.1:Int) b.2.1 (ak b.2.2)
def isM(b:Bool):Nat:=if b=true then 2 else 0
def likeM(x c:Cl):Bool:=x.1==3 && c.1==3 && lk (iK (lb (ak c.2.2))) (iK (lb (ak x.2.2)))
def SU(op:Nat)(c x:Cl):Nat :=
 if op=1 then isM (decide (cT x (bm c)=0)) else if op=2 then isM (decide (cT x (bm c)<0)) else if op=3 then isM (decide (cT x (bm c)<=0)) else if op=4 then isM (likeM x c) else 1
def DN(op:Nat)(c x:Cl):Nat:=if op=5 then isM (decide (x.1=0)) else if x.1=0 then 1 else SU op c x
def pr(l:List Fd)(r:List Cl)(op f:Nat)(c:Cl):Nat :=
 match iL l f with
 | none=>1
 | some j=>match r[j]? with
  | none=>1
  | some x=>DN op c x
 mutual
def jp(l:List Fd)(r:List Cl):PT->Nat
 | .node op f c ks=>if op=6 then evalAnd l r ks 2 else if op=7 then evalOr l r ks 0 else if op=8 then evalNot l r ks else pr l r op f c
def evalAnd(l:List Fd)(r:List Cl):List PT->Nat->Nat
 | [],a=>a
 | k::ks,a=>evalAnd l r ks (min a (jp l r k))
def evalOr(l:List Fd)(r:List Cl):List PT->Nat->Nat
 | [],a=>a
 | k::ks,a=>evalOr l r ks (max a (jp l r k))
def evalNot(l:List Fd)(r:List Cl):List PT->Nat
 | []=>1
 | k::_=>2-jp l r k
 end
def togA(a b:B3):B3:=((a.1 && (b.1 || b.2.1 || b.2.2)) || (a.2.1 && b.1) || (a.2.2 && b.1),(a.2.1 && (b.2.1 || b.2.2)) || (a.2.2 && b.2.1),a.2.2 && b.2.2)
def togO(a b:B3):B3:=(a.1 && b.1,(a.1 && b.2.1) || (a.2.1 && (b.1 || b.2.1)),(a.1 && b.2.2) || (a.2.1 && b.2.2) || (a.2.2 && (b.1 || b.2.1 || b.2.2)))
def conM(a:B3):B3:=(a.2.2,a.2.1,a.1)
def sN(v:Cl):Bool:=decide ((V (lb (ak v.2.2))).length<4)
def na(u:Bool)(op:Nat)(c:Cl)(st:Stt):B3 :=
 if op=1 then (!(st.high && decide (cT (bm c) (bm st.lo)=0) && decide (cT (bm c) (bm st.hi)=0) && sN (bm c)),u,decide (0<=cT (bm c) (bm st.lo)) && !(st.high && decide (0<cT (bm c) (bm st.hi))))
 else if op=2 then (!(st.high && decide (0<cT (bm c) (bm st.hi))),u,decide (0<cT (bm c) (bm st.lo)))
 else if op=3 then (!(st.high && decide (0<=cT (bm c) (bm st.hi))),u,decide (0<=cT (bm c) (bm st.lo)))
 else if op=4 then (true,u,true) else (true,true,true)
def Ho(op:Nat)(c:Cl)(st:Stt):B3:=if op=5 then (st.some,false,decide (0<st.nulls)) else if st.some=true then na (decide (0<st.nulls)) op c st else (false,decide (0<st.nulls),false)
def kC(l:List Fd)(sts:List Stt)(op f:Nat)(c:Cl):B3 :=
 match iL l f with
 | none=>(true,true,true)
 | some j=>match sts[j]? with
  | none=>(true,true,true)
  | some st=>Ho op c st
 mutual
def oX(l:List Fd)(sts:List Stt):PT->B3
 | .node op f c ks=>if op=6 then mayAnd l sts ks (false,false,true) else if op=7 then mayOr l sts ks (true,false,false) else if op=8 then mayNot l sts ks else kC l sts op f c
def mayAnd(l:List Fd)(sts:List Stt):List PT->B3->B3
 | [],a=>a
 | k::ks,a=>mayAnd l sts ks (togA a (oX l sts k))
def mayOr(l:List Fd)(sts:List Stt):List PT->B3->B3
 | [],a=>a
 | k::ks,a=>mayOr l sts ks (togO a (oX l sts k))
def mayNot(l:List Fd)(sts:List Stt):List PT->B3
 | []=>(false,true,false)
 | k::_=>conM (oX l sts k)
 end
 mutual
def Len:PT->Prop
 | .node _ _ c ks=>c.2.2.length<=300/\LenAll ks
def LenAll:List PT->Prop
 | []=>True
 | k::ks=>Len k/\LenAll ks
 end
 mutual
def Okp:PT->Prop
 | .node op f c ks=>op<256/\f<4294967296/\Okc c/\OkpAll ks
def OkpAll:List PT->Prop
 | []=>True
 | k::ks=>Okp k/\OkpAll ks
 end
theorem LenAll.get{ks:List PT}(h:LenAll ks):∀ k∈ks,Len k:=by
 induction ks with
 | nil=>intro k hk;simp at hk
 | cons a ks ih =>
  intro k hk;simp only[LenAll]at h;rcases jdN.1 hk with rfl | hk
  ·exact h.1
  ·exact ih h.2 k hk
theorem OkpAll.get{ks:List PT}(h:OkpAll ks):∀ k∈ks,Okp k:=by
 induction ks with
 | nil=>intro k hk;simp at hk
 | cons a ks ih =>
  intro k hk;simp only[OkpAll]at h;rcases jdN.1 hk with rfl | hk
  ·exact h.1
  ·exact ih h.2 k hk
end Go.Proofs.YtpljdjmpamjkhaaGreatDoor
