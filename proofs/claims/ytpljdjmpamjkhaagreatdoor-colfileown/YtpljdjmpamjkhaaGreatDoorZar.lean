/- Compare, the logic of three values, Of, the document's Less. The document's Above; that it is the program's; bounds. Predicates as trees, no program: what they answer of a row, and what statistics leave; not of and is or of the nots. Predicates in memory; the leaves of Eval and May. -/
import Derived.Test.YtpljdjmpamjkhaaGreatDoorZad
import Derived.Test.YtpljdjmpamjkhaaGreatDoorZah
import Derived.Test.YtpljdjmpamjkhaaGreatDoorZai
import Derived.Test.YtpljdjmpamjkhaaGreatDoorZao
set_option linter.unusedVariables false
set_option linter.unusedSimpArgs false
set_option maxHeartbeats 1000000
namespace Go.Proofs.YtpljdjmpamjkhaaGreatDoor
open Go.RowKit Go.Lib
theorem cmpK (a b:Int) (w:World):Calls Tryz.prog 150 #[.int .u8 a,.int .u8 b] w fun e w'=>e=.returned (.int .i64 (if a<b then -1 else if b<a then 1 else 0))/\w'=w:=by
 by_cases h1:a<b
 ·go_enter Tryz.func150,Tryz.ntmps150
  go_wp2
  go_ret
  exact ⟨rfl,rfl⟩
 ·by_cases h2:b<a
  ·go_enter Tryz.func150,Tryz.ntmps150
   go_wp2
   go_ret
   exact ⟨rfl,rfl⟩
  ·go_enter Tryz.func150,Tryz.ntmps150
   go_wp2
   go_ret
   exact ⟨rfl,rfl⟩
theorem cmpI (a b:Int) (w:World):Calls Tryz.prog 151 #[.int .i64 a,.int .i64 b] w fun e w'=>e=.returned (.int .i64 (if a<b then -1 else if b<a then 1 else 0))/\w'=w:=by
 by_cases h1:a<b
 ·go_enter Tryz.func151,Tryz.ntmps151
  go_wp2
  go_ret
  exact ⟨rfl,rfl⟩
 ·by_cases h2:b<a
  ·go_enter Tryz.func151,Tryz.ntmps151
   go_wp2
   go_ret
   exact ⟨rfl,rfl⟩
  ·go_enter Tryz.func151,Tryz.ntmps151
   go_wp2
   go_ret
   exact ⟨rfl,rfl⟩
theorem cmpS_lt (a b:ByteArray) (w:World) (h:Op.bytesLess a.toList b.toList=true):Calls Tryz.prog 152 #[.string a,.string b] w fun e w'=>e=.returned (.int .i64 (-1))/\w'=w:=by
 go_enter Tryz.func152,Tryz.ntmps152
 go_wp2
 go_ret
 exact ⟨rfl,rfl⟩
theorem cmpS_eq (a b:ByteArray) (w:World) (h:Op.bytesLess a.toList b.toList=false) (h2:(a.toList==b.toList)=true):Calls Tryz.prog 152 #[.string a,.string b] w fun e w'=>e=.returned (.int .i64 0)/\w'=w:=by
 go_enter Tryz.func152,Tryz.ntmps152
 go_wp2
 go_ret
 exact ⟨rfl,rfl⟩
theorem cmpS_gt (a b:ByteArray) (w:World) (h:Op.bytesLess a.toList b.toList=false) (h2:(a.toList==b.toList)=false):Calls Tryz.prog 152 #[.string a,.string b] w fun e w'=>e=.returned (.int .i64 1)/\w'=w:=by
 go_enter Tryz.func152,Tryz.ntmps152
 go_wp2
 go_ret
 exact ⟨rfl,rfl⟩
def c3 (a b:Int):Int:=if a<b then -1 else if b<a then 1 else 0
def cS (a b:ByteArray):Int:=if Op.bytesLess a.toList b.toList=true then -1 else if (a.toList==b.toList)=true then 0 else 1
def or3 (x y z:Int):Int:=if x≠0 then x else if y≠0 then y else z
theorem cmpK_any (a b:Int) (w:World):Calls Tryz.prog 150 #[.int .u8 a,.int .u8 b] w fun e w'=>e=.returned (.int .i64 (c3 a b))/\w'=w:=by
 unfold c3;exact cmpK a b w
theorem cmpI_any (a b:Int) (w:World):Calls Tryz.prog 151 #[.int .i64 a,.int .i64 b] w fun e w'=>e=.returned (.int .i64 (c3 a b))/\w'=w:=by
 unfold c3;exact cmpI a b w
theorem cmpS_any (a b:ByteArray) (w:World):Calls Tryz.prog 152 #[.string a,.string b] w fun e w'=>e=.returned (.int .i64 (cS a b))/\w'=w:=by
 unfold cS
 by_cases h:Op.bytesLess a.toList b.toList=true
 ·rw [if_pos h];exact cmpS_lt a b w h
 ·rw [if_neg h]
  by_cases h2:(a.toList==b.toList)=true
  ·rw [if_pos h2];exact cmpS_eq a b w (by simpa using h) h2
  ·rw [if_neg h2];exact cmpS_gt a b w (by simpa using h) (by simpa using h2)
theorem or_x (g:Nat) (x:Int) (w:World) (h0:w.cell? ⟨g,0,none⟩=some (.int .i64 x)) (hx:(x != 0)=true):Calls Tryz.prog 149 #[.slice (some ⟨g,0,none⟩) 3 3] w fun e w'=>e=.returned (.int .i64 x)/\w'=w:=by
 go_enter Tryz.func149,Tryz.ntmps149
 go_wp2
 refine wp_loop_rounds 1 ?_
 rw [rounds_succ]
 go_wp2
 go_ret
 exact ⟨rfl,rfl⟩
theorem or_y (g:Nat) (y:Int) (w:World) (h0:w.cell? ⟨g,0,none⟩=some (.int .i64 0)) (h1:w.cell? ⟨g,1,none⟩=some (.int .i64 y)) (hy:(y != 0)=true):Calls Tryz.prog 149 #[.slice (some ⟨g,0,none⟩) 3 3] w fun e w'=>e=.returned (.int .i64 y)/\w'=w:=by
 go_enter Tryz.func149,Tryz.ntmps149
 go_wp2
 refine wp_loop_rounds 2 ?_
 rw [rounds_succ]
 go_wp2
 rw [rounds_succ]
 go_wp2
 go_ret
 exact ⟨rfl,rfl⟩
theorem or_z (g:Nat) (z:Int) (w:World) (h0:w.cell? ⟨g,0,none⟩=some (.int .i64 0)) (h1:w.cell? ⟨g,1,none⟩=some (.int .i64 0)) (h2:w.cell? ⟨g,2,none⟩=some (.int .i64 z)) (hz:(z != 0)=true):Calls Tryz.prog 149 #[.slice (some ⟨g,0,none⟩) 3 3] w fun e w'=>e=.returned (.int .i64 z)/\w'=w:=by
 go_enter Tryz.func149,Tryz.ntmps149
 go_wp2
 refine wp_loop_rounds 3 ?_
 rw [rounds_succ]
 go_wp2
 rw [rounds_succ]
 go_wp2
 rw [rounds_succ]
 go_wp2
 go_ret
 exact ⟨rfl,rfl⟩
theorem or_none (g:Nat) (w:World) (h0:w.cell? ⟨g,0,none⟩=some (.int .i64 0)) (h1:w.cell? ⟨g,1,none⟩=some (.int .i64 0)) (h2:w.cell? ⟨g,2,none⟩=some (.int .i64 0)):Calls Tryz.prog 149 #[.slice (some ⟨g,0,none⟩) 3 3] w fun e w'=>e=.returned (.int .i64 0)/\w'=w:=by
 go_enter Tryz.func149,Tryz.ntmps149
 go_wp2
 refine wp_loop_rounds 4 ?_
 rw [rounds_succ]
 go_wp2
 rw [rounds_succ]
 go_wp2
 rw [rounds_succ]
 go_wp2
 rw [rounds_succ]
 go_wp2
 go_ret
 exact ⟨rfl,rfl⟩
theorem or_any (g:Nat) (x y z:Int) (w:World) (h0:w.cell? ⟨g,0,none⟩=some (.int .i64 x)) (h1:w.cell? ⟨g,1,none⟩=some (.int .i64 y)) (h2:w.cell? ⟨g,2,none⟩=some (.int .i64 z)):Calls Tryz.prog 149 #[.slice (some ⟨g,0,none⟩) 3 3] w fun e w'=>e=.returned (.int .i64 (or3 x y z))/\w'=w:=by
 unfold or3
 by_cases hx:x≠0
 ·rw [if_pos hx];exact or_x g x w h0 (by simpa using hx)
 ·rw [if_neg hx]
  obtain rfl:x=0:=by omega
  by_cases hy:y≠0
  ·rw [if_pos hy];exact or_y g y w h0 h1 (by simpa using hy)
  ·rw [if_neg hy]
   obtain rfl:y=0:=by omega
   by_cases hz:z=0
   ·subst hz;exact or_none g w h0 h1 h2
   ·exact or_z g z w h0 h1 h2 (by simpa using hz)
theorem compare_any {x y:Value} {k n k' n':Int} {s s':ByteArray} (hx:Val x k n s) (hy:Val y k' n' s') (w:World):Calls Tryz.prog 105 #[x,y] w fun e w'=>e=.returned (.int .i64 (or3 (c3 k k') (c3 n n') (cS s s')))/\Below w.heap.size w w':=by
 go_enter Tryz.func105,Tryz.ntmps105
 go_wp2_with fail
 refine (cellOf_any hx _).mono ?_
 rintro e w1 ⟨rfl,hb1⟩
 go_wp2_with fail
 refine (cellOf_any hy _).mono ?_
 rintro e w2 ⟨rfl,hb2⟩
 have hz1:=hb1.size
 have hz2:w1.heap.size<w2.heap.size:=by have:=hb2.size;simp at this;omega
 obtain ⟨hc2,hf2⟩:=bcell hb2
 have p0:=hc2 w1.heap.size 0 (by simp)
 have p1:=hc2 w1.heap.size 1 (by simp)
 have p2:=hc2 w1.heap.size 2 (by simp)
 clear hc2 hf2
 simp at p0 p1 p2
 go_wp2_with fail
 obtain ⟨W,hW⟩:∃ W:World,W=w2.alloc (Obj.cells #[Value.int IntKind.u8 k',Value.int IntKind.i64 n',Value.string s'] 52):=⟨_,rfl⟩
 have hbW:Below w2.heap.size w2 W:=by rw [hW];exact (Below.refl _ _).alloc (Nat.le_refl _) _
 have a0:W.cell? ⟨w1.heap.size,0,none⟩=some (.int .u8 k):=(hbW.cell (p:=⟨w1.heap.size,0,none⟩) hz2).trans p0
 have a1:W.cell? ⟨w1.heap.size,1,none⟩=some (.int .i64 n):=(hbW.cell (p:=⟨w1.heap.size,1,none⟩) hz2).trans p1
 have a2:W.cell? ⟨w1.heap.size,2,none⟩=some (.string s):=(hbW.cell (p:=⟨w1.heap.size,2,none⟩) hz2).trans p2
 have b0:W.cell? ⟨w2.heap.size,0,none⟩=some (.int .u8 k'):=by rw [hW];simp
 have b1:W.cell? ⟨w2.heap.size,1,none⟩=some (.int .i64 n'):=by rw [hW];simp
 have b2:W.cell? ⟨w2.heap.size,2,none⟩=some (.string s'):=by rw [hW];simp
 have hzW:w2.heap.size<W.heap.size:=by rw [hW];simp
 have hzV:w1.heap.size<W.heap.size:=by omega
 have HB:Below w.heap.size w W:=by rw [hW];exact (((hb1.alloc (by omega) _).trans (hb2.mono (by simp;omega))).alloc (by omega) _)
 have HH:Hid (Below w.heap.size w W):=HB
 clear HB
 rw [← hW]
 clear hW hbW p0 p1 p2 hb1 hb2 hx hy
 go_region_held3 (fun w'=>w'.cell? ⟨w1.heap.size,0,none⟩=some (.int .u8 k)/\w'.cell? ⟨w1.heap.size,1,none⟩=some (.int .i64 n)/\w'.cell? ⟨w1.heap.size,2,none⟩=some (.string s)/\w'.cell? ⟨w2.heap.size,0,none⟩=some (.int .u8 k')/\w'.cell? ⟨w2.heap.size,1,none⟩=some (.int .i64 n')/\w'.cell? ⟨w2.heap.size,2,none⟩=some (.string s')) (go_keep) (first | (go_at_call 150;refine (cmpK_any _ _ _).mono ?_;rintro e w' ⟨rfl,rfl⟩) | (go_at_call 151;refine (cmpI_any _ _ _).mono ?_;rintro e w' ⟨rfl,rfl⟩) | (go_at_call 152;refine (cmpS_any _ _ _).mono ?_;rintro e w' ⟨rfl,rfl⟩) | (go_at_call 149;refine (or_any _ (c3 k k') (c3 n n') (cS s s') _ ?_ ?_ ?_).mono ?_;(simp);(simp);(simp);rintro e w' ⟨rfl,rfl⟩))
 all_goals go_wp2
 all_goals go_ret
 all_goals refine ⟨rfl,?_⟩
 all_goals exact (HH.out.alloc (by have:=HH.out.size;omega) _).drew
theorem numberFits_any (k n:Int) (s:ByteArray) (w:World):Calls Tryz.prog 266 #[.agg #[.int .u8 k,.int .i64 n,.string s]] w fun e w'=>e=.returned (.bool (nfit k n))/\Below w.heap.size w w':=by
 unfold nfit
 by_cases h1:(k==1)=true
 ·go_enter Tryz.func266,Tryz.ntmps266
  go_wp2
  go_ret
  exact ⟨rfl,(Below.refl _ _).alloc (Nat.le_refl _) _⟩
 ·by_cases h2:(k==2)=true
  ·by_cases h3:(n==0)=true
   ·go_enter Tryz.func266,Tryz.ntmps266
    go_wp2
    go_ret
    exact ⟨rfl,(Below.refl _ _).alloc (Nat.le_refl _) _⟩
   ·go_enter Tryz.func266,Tryz.ntmps266
    go_wp2
    go_ret
    exact ⟨rfl,(Below.refl _ _).alloc (Nat.le_refl _) _⟩
  ·go_enter Tryz.func266,Tryz.ntmps266
   go_wp2
   go_ret
   exact ⟨rfl,(Below.refl _ _).alloc (Nat.le_refl _) _⟩
theorem kindOf_any {v:Value} {k n:Int} {s:ByteArray} (h:Val v k n s) (w:World):Calls Tryz.prog 144 #[v] w fun e w'=>e=.returned (.int .u8 k)/\w'=w:=by
 have t1:=ta_2_2
 have t2:=ta_4_2
 have t3:=ta_4_4
 have t4:=ta_9_2
 have t5:=ta_9_4
 have t6:=ta_9_9
 have t7:=ta_n_2
 have t8:=ta_n_4
 have t9:=ta_n_9
 rcases h with ⟨rfl,rfl,rfl,rfl⟩ | ⟨rfl,rfl,rfl⟩ | ⟨b,rfl,rfl,rfl,rfl⟩ | ⟨rfl,rfl,rfl⟩
 all_goals
  go_enter Tryz.func144,Tryz.ntmps144
  go_wp2
  go_ret
  exact ⟨rfl,rfl⟩
theorem KindOf_any {v:Value} {k n:Int} {s:ByteArray} (h:Val v k n s) (w:World):Calls Tryz.prog 100 #[v] w fun e w'=>e=.returned (.int .u8 k)/\w'=w:=by
 go_enter Tryz.func100,Tryz.ntmps100
 go_wp2_with fail
 refine (kindOf_any h _).mono ?_
 rintro e w1 ⟨rfl,rfl⟩
 go_wp2
 go_ret
 exact ⟨rfl,rfl⟩
theorem fault_kind (k n:Int) (s:ByteArray) (w:World) (h1:3<k):Calls Tryz.prog 238 #[.agg #[.int .u8 k,.int .i64 n,.string s]] w fun e w'=>e=.returned (.int .i64 10)/\Below w.heap.size w w':=by
 go_enter Tryz.func238,Tryz.ntmps238
 go_wp2
 go_ret
 exact ⟨rfl,(Below.refl _ _).alloc (Nat.le_refl _) _⟩
theorem fault_text (k n:Int) (s:ByteArray) (w:World) (h1:k<=3) (h2:(k != 3)=true) (h3:s.toList.isEmpty=false):Calls Tryz.prog 238 #[.agg #[.int .u8 k,.int .i64 n,.string s]] w fun e w'=>e=.returned (.int .i64 1)/\Below w.heap.size w w':=by
 go_enter Tryz.func238,Tryz.ntmps238
 go_wp2
 go_ret
 exact ⟨rfl,(Below.refl _ _).alloc (Nat.le_refl _) _⟩
theorem fault_num (k n:Int) (s:ByteArray) (w:World) (h1:k<=3) (h2:(k != 3)=false∨(k != 3)=true/\s.toList.isEmpty=true) (h3:nfit k n=false):Calls Tryz.prog 238 #[.agg #[.int .u8 k,.int .i64 n,.string s]] w fun e w'=>e=.returned (.int .i64 1)/\Below w.heap.size w w':=by
 rcases h2 with h2 | ⟨h2,h4⟩
 all_goals
  go_enter Tryz.func238,Tryz.ntmps238
  go_wp2_with fail
  refine (numberFits_any _ _ _ _).mono ?_
  rw [h3]
  rintro e w1 ⟨rfl,hb⟩
  obtain ⟨hc,hf⟩:=bcell hb
  go_wp2
  go_ret
  exact ⟨rfl,((Below.refl _ _).alloc (Nat.le_refl _) _).trans (hb.mono (by simp))⟩
theorem fault_long (k n:Int) (s:ByteArray) (w:World) (h1:k<=3) (h2:(k != 3)=false∨(k != 3)=true/\s.toList.isEmpty=true) (h3:nfit k n=true) (h5:64<(s.size:Int)):Calls Tryz.prog 238 #[.agg #[.int .u8 k,.int .i64 n,.string s]] w fun e w'=>e=.returned (.int .i64 5)/\Below w.heap.size w w':=by
 rcases h2 with h2 | ⟨h2,h4⟩
 all_goals
  go_enter Tryz.func238,Tryz.ntmps238
  go_wp2_with fail
  refine (numberFits_any _ _ _ _).mono ?_
  rw [h3]
  rintro e w1 ⟨rfl,hb⟩
  obtain ⟨hc,hf⟩:=bcell hb
  go_wp2
  go_ret
  exact ⟨rfl,((Below.refl _ _).alloc (Nat.le_refl _) _).trans (hb.mono (by simp))⟩
theorem fault_ok (k n:Int) (s:ByteArray) (w:World) (h1:k<=3) (h2:(k != 3)=false∨(k != 3)=true/\s.toList.isEmpty=true) (h3:nfit k n=true) (h5:(s.size:Int)<=64):Calls Tryz.prog 238 #[.agg #[.int .u8 k,.int .i64 n,.string s]] w fun e w'=>e=.returned (.int .i64 0)/\Below w.heap.size w w':=by
 rcases h2 with h2 | ⟨h2,h4⟩
 all_goals
  go_enter Tryz.func238,Tryz.ntmps238
  go_wp2_with fail
  refine (numberFits_any _ _ _ _).mono ?_
  rw [h3]
  rintro e w1 ⟨rfl,hb⟩
  obtain ⟨hc,hf⟩:=bcell hb
  go_wp2
  go_ret
  exact ⟨rfl,((Below.refl _ _).alloc (Nat.le_refl _) _).trans (hb.mono (by simp))⟩
theorem fault_any (k n:Int) (s:ByteArray) (w:World):Calls Tryz.prog 238 #[.agg #[.int .u8 k,.int .i64 n,.string s]] w fun e w'=>e=.returned (.int .i64 (flt k n s))/\Below w.heap.size w w':=by
 unfold flt
 by_cases h1:3<k
 ·rw [if_pos h1];exact fault_kind k n s w h1
 ·rw [if_neg h1]
  by_cases h2:tx k s=true
  ·rw [if_pos h2];exact fault_text k n s w (by omega) (tx_true h2).1 (tx_true h2).2
  ·rw [if_neg h2]
   have h2':=tx_false (by simpa using h2)
   by_cases h3:nfit k n=false
   ·rw [if_pos h3];exact fault_num k n s w (by omega) h2' h3
   ·rw [if_neg h3]
    by_cases h4:64<(s.size:Int)
    ·rw [if_pos h4];exact fault_long k n s w (by omega) h2' (by simpa using h3) h4
    ·rw [if_neg h4];exact fault_ok k n s w (by omega) h2' (by simpa using h3) (by omega)
theorem of_bad (k n:Int) (s:ByteArray) (h:(flt k n s != 0)=true) (w:World):Calls Tryz.prog 217 #[.agg #[.int .u8 k,.int .i64 n,.string s]] w fun e w'=>e=.returned (.tuple #[.nilIface,.int .i64 (flt k n s)])/\Below w.heap.size w w':=by
 go_enter Tryz.func217,Tryz.ntmps217
 go_wp2_with fail
 refine (fault_any _ _ _ _).mono ?_
 rintro e w1 ⟨rfl,hb⟩
 go_wp2_with fail
 go_ret2
 exact ⟨rfl,((Below.refl _ _).alloc (Nat.le_refl _) _).trans (hb.mono (by simp))⟩
theorem of_good (k n:Int) (s:ByteArray) (h0:0<=k) (h:flt k n s=0) (w:World):Calls Tryz.prog 217 #[.agg #[.int .u8 k,.int .i64 n,.string s]] w fun e w'=>(∃ v,e=.returned (.tuple #[v,.int .i64 0])/\Val v k n s)/\Below w.heap.size w w':=by
 have hf:=fault_any k n s
 rw [h] at hf
 have HF:Hid (∀ w:World,Calls Tryz.prog 238 #[.agg #[.int .u8 k,.int .i64 n,.string s]] w fun e w'=>e=.returned (.int .i64 0)/\Below w.heap.size w w'):=hf
 clear hf
 obtain ⟨rfl,rfl,rfl⟩ | ⟨rfl,rfl⟩ | ⟨rfl,rfl,rfl⟩ | ⟨rfl,rfl,rfl⟩ | ⟨rfl,rfl,hs⟩:=flt_zero h0 h
 all_goals clear h h0
 ·go_enter Tryz.func217,Tryz.ntmps217
  go_wp2_with fail
  refine (HF.out _).mono ?_
  rintro e w1 ⟨rfl,hb⟩
  obtain ⟨hc,hf⟩:=bcell hb
  go_wp2_with fail
  go_ret2
  exact ⟨⟨_,rfl,Or.inl ⟨rfl,rfl,rfl,rfl⟩⟩,((Below.refl _ _).alloc (Nat.le_refl _) _).trans (hb.mono (by simp))⟩
 ·go_enter Tryz.func217,Tryz.ntmps217
  go_wp2_with fail
  refine (HF.out _).mono ?_
  rintro e w1 ⟨rfl,hb⟩
  obtain ⟨hc,hf⟩:=bcell hb
  go_wp2_with fail
  go_ret2
  exact ⟨⟨_,rfl,Or.inr (Or.inl ⟨rfl,rfl,rfl⟩)⟩,((Below.refl _ _).alloc (Nat.le_refl _) _).trans (hb.mono (by simp))⟩
 ·go_enter Tryz.func217,Tryz.ntmps217
  go_wp2_with fail
  refine (HF.out _).mono ?_
  rintro e w1 ⟨rfl,hb⟩
  obtain ⟨hc,hf⟩:=bcell hb
  go_wp2_with fail
  go_ret2
  exact ⟨⟨_,rfl,Or.inr (Or.inr (Or.inl ⟨false,rfl,rfl,rfl,rfl⟩))⟩,((Below.refl _ _).alloc (Nat.le_refl _) _).trans (hb.mono (by simp))⟩
 ·go_enter Tryz.func217,Tryz.ntmps217
  go_wp2_with fail
  refine (HF.out _).mono ?_
  rintro e w1 ⟨rfl,hb⟩
  obtain ⟨hc,hf⟩:=bcell hb
  go_wp2_with fail
  go_ret2
  exact ⟨⟨_,rfl,Or.inr (Or.inr (Or.inl ⟨true,rfl,rfl,rfl,rfl⟩))⟩,((Below.refl _ _).alloc (Nat.le_refl _) _).trans (hb.mono (by simp))⟩
 ·go_enter Tryz.func217,Tryz.ntmps217
  go_wp2_with fail
  refine (HF.out _).mono ?_
  rintro e w1 ⟨rfl,hb⟩
  obtain ⟨hc,hf⟩:=bcell hb
  go_wp2_with fail
  go_ret2
  exact ⟨⟨_,rfl,Or.inr (Or.inr (Or.inr ⟨rfl,rfl,rfl⟩))⟩,((Below.refl _ _).alloc (Nat.le_refl _) _).trans (hb.mono (by simp))⟩
theorem is_any (b:Bool) (w:World):Calls Tryz.prog 221 #[.bool b] w fun e w'=>e=.returned (.int .u8 (if b then 2 else 0))/\w'=w:=by
 cases b
 all_goals
  go_enter Tryz.func221,Tryz.ntmps221
  go_wp2
  go_ret
  exact ⟨rfl,rfl⟩
def cv (k n:Int) (s:ByteArray) (k' n':Int) (s':ByteArray):Int:=or3 (c3 k k') (c3 n n') (cS s s')
theorem compare_cv {x y:Value} {k n k' n':Int} {s s':ByteArray} (hx:Val x k n s) (hy:Val y k' n' s') (w:World):Calls Tryz.prog 105 #[x,y] w fun e w'=>e=.returned (.int .i64 (cv k n s k' n' s'))/\Below w.heap.size w w':=compare_any hx hy w
end Go.Proofs.YtpljdjmpamjkhaaGreatDoor
set_option linter.unusedVariables false
set_option linter.unusedSimpArgs false
namespace Go.Proofs.YtpljdjmpamjkhaaGreatDoor
open Go.RowKit Go.Lib
open Go.Op (bytesLess)
def refAboveL (l:List UInt8) (n:Int):Option (List UInt8) :=
 if clean l=true then (if ((V l).length:Int)<=n then some l else if n<1 then none else upL l n.toNat) else none
theorem flat_take (rs:List Nat):∀ k,(flat rs).take (offs (rs.map eu) k)=flat (rs.take k):=by
 induction rs with
 | nil=>intro k;simp
 | cons c rs ih =>
  intro k
  cases k with
  | zero=>simp
  | succ k =>
   have:offs ((c::rs).map eu) (k+1)=(encL c).length+offs (rs.map eu) k:=by
    simp [offs,eu]
   rw [this,flat_cons,List.take_succ_cons,flat_cons,← ih k,List.take_length_add_append]
theorem getD_take {u:List (Nat×Nat)} {j k:Nat} (h:j<k):(u.take k).getD j (0,0)=u.getD j (0,0):=by
 simp [List.getD_eq_getElem?_getD,List.getElem?_take,h]
theorem lastG_take (u:List (Nat×Nat)) (k:Nat):∀ j,j<=k->lastG (u.take k) j=lastG u j:=by
 intro j
 induction j with
 | zero=>intro _;rfl
 | succ j ih =>
  intro h
  simp only [lastG]
  rw [getD_take (by omega),ih (by omega)]
theorem offs_take {u:List (Nat×Nat)} {i k:Nat} (h:i<=k):offs (u.take k) i=offs u i:=by
 unfold offs
 rw [List.take_take,Nat.min_eq_left h]
theorem up_first {rs:List Nat} (hv:∀ r∈rs,vr r) {k:Nat} (hk:k<=rs.length):raisedL (flat (rs.take k))=upL (flat rs) k:=by
 have hv2:∀ r∈rs.take k,vr r:=fun r hr=>hv r (List.mem_of_mem_take hr)
 have e1:=V_flat0 rs hv
 have e2:=V_flat0 (rs.take k) hv2
 have hl:((rs.take k).map eu).length=k:=by simp;omega
 unfold raisedL upL
 rw [e1,e2,hl,List.map_take,lastG_take _ _ _ (Nat.le_refl _)]
 cases hg:lastG (rs.map eu) k with
 | none=>rfl
 | some i =>
  have hi:=(lastG_lt hg).1
  simp only [Option.map_some]
  rw [getD_take hi,offs_take (by omega),flat_take]
  have h3:=flat_take (rs.take k) i
  rw [List.map_take,offs_take (by omega),List.take_take,Nat.min_eq_left (by omega)] at h3
  rw [h3]
theorem first_flat {rs:List Nat} (hv:∀ r∈rs,vr r) (n:Int):firstL (flat rs) n=flat (rs.take n.toNat):=by
 unfold firstL
 rw [V_flat0 rs hv,flat_take]
theorem above_eq (l:List UInt8) (n:Int):aboveL l n=refAboveL l n:=by
 unfold aboveL refAboveL
 by_cases hc:clean l=true
 ·rw [if_pos hc,if_pos hc]
  by_cases h1:((V l).length:Int)<=n
  ·rw [if_pos h1,if_pos h1]
  ·rw [if_neg h1,if_neg h1]
   have hl:=clean_eq hc
   have hv:=runes_vr l
   have hlen:(runes l).length=(V l).length:=by simp [runes]
   generalize runes l=rs at *
   subst hl
   rw [first_flat hv,up_first hv (by omega)]
   by_cases h2:n<1
   ·rw [if_pos h2]
    have:n.toNat=0:=by omega
    rw [this]
    rfl
   ·rw [if_neg h2]
 ·rw [if_neg hc,if_neg hc]
end Go.Proofs.YtpljdjmpamjkhaaGreatDoor
set_option linter.unusedVariables false
set_option linter.unusedSimpArgs false
namespace Go.Proofs.YtpljdjmpamjkhaaGreatDoor
open Go.RowKit Go.Lib
/-- A predicate: its kind,its field,its value,its kids. -/
 inductive PT where
 | node (op fld:Nat) (c:Cl) (ks:List PT):PT
theorem PT.ind {P:PT->Prop} (h:∀ op f c ks,(∀ k∈ks,P k)->P (.node op f c ks)) (t:PT):P t:=by
 refine PT.rec (motive_1:=P) (motive_2:=fun ks=>∀ k∈ks,P k) (fun op f c ks ih=>h op f c ks ih) (fun k hk=>?_) (fun a ks ha ih k hk=>?_) t
 ·simp at hk
 ·rcases List.mem_cons.1 hk with rfl | hk
  ·exact ha
  ·exact ih k hk
abbrev B3:=Bool×Bool×Bool
/-- Statistics. -/
 structure Stt where
 rows:Int
 nulls:Int
 some:Bool
 high:Bool
 lo:Cl
 hi:Cl
def cmpC (a b:Cl):Int:=cv (a.1:Int) a.2.1 (bytesT a.2.2) (b.1:Int) b.2.1 (bytesT b.2.2)
def isM (b:Bool):Nat:=if b=true then 2 else 0
def likeM (x c:Cl):Bool:=x.1==3 && c.1==3 && lk (runes (lb (bytesT c.2.2))) (runes (lb (bytesT x.2.2)))
def heldM (op:Nat) (c x:Cl):Nat :=
 if op=1 then isM (decide (cmpC x (fixC c)=0)) else if op=2 then isM (decide (cmpC x (fixC c)<0)) else if op=3 then isM (decide (cmpC x (fixC c)<=0)) else if op=4 then isM (likeM x c) else 1
def leafX (op:Nat) (c x:Cl):Nat:=if op=5 then isM (decide (x.1=0)) else if x.1=0 then 1 else heldM op c x
def leafM (l:List Fd) (r:List Cl) (op f:Nat) (c:Cl):Nat :=
 match place l f with
 | none=>1
 | some j=>match r[j]? with
  | none=>1
  | some x=>leafX op c x
 mutual
def evalM (l:List Fd) (r:List Cl):PT->Nat
 | .node op f c ks=>if op=6 then evalAnd l r ks 2 else if op=7 then evalOr l r ks 0 else if op=8 then evalNot l r ks else leafM l r op f c
def evalAnd (l:List Fd) (r:List Cl):List PT->Nat->Nat
 | [],a=>a
 | k::ks,a=>evalAnd l r ks (min a (evalM l r k))
def evalOr (l:List Fd) (r:List Cl):List PT->Nat->Nat
 | [],a=>a
 | k::ks,a=>evalOr l r ks (max a (evalM l r k))
def evalNot (l:List Fd) (r:List Cl):List PT->Nat
 | []=>1
 | k::_=>2-evalM l r k
 end
def togA (a b:B3):B3:=((a.1 && (b.1 || b.2.1 || b.2.2)) || (a.2.1 && b.1) || (a.2.2 && b.1),(a.2.1 && (b.2.1 || b.2.2)) || (a.2.2 && b.2.1),a.2.2 && b.2.2)
def togO (a b:B3):B3:=(a.1 && b.1,(a.1 && b.2.1) || (a.2.1 && (b.1 || b.2.1)),(a.1 && b.2.2) || (a.2.1 && b.2.2) || (a.2.2 && (b.1 || b.2.1 || b.2.2)))
def conM (a:B3):B3:=(a.2.2,a.2.1,a.1)
def uncutM (v:Cl):Bool:=decide ((V (lb (bytesT v.2.2))).length<4)
def withM (u:Bool) (op:Nat) (c:Cl) (st:Stt):B3 :=
 if op=1 then (!(st.high && decide (cmpC (fixC c) (fixC st.lo)=0) && decide (cmpC (fixC c) (fixC st.hi)=0) && uncutM (fixC c)),u,decide (0<=cmpC (fixC c) (fixC st.lo)) && !(st.high && decide (0<cmpC (fixC c) (fixC st.hi))))
 else if op=2 then (!(st.high && decide (0<cmpC (fixC c) (fixC st.hi))),u,decide (0<cmpC (fixC c) (fixC st.lo)))
 else if op=3 then (!(st.high && decide (0<=cmpC (fixC c) (fixC st.hi))),u,decide (0<=cmpC (fixC c) (fixC st.lo)))
 else if op=4 then (true,u,true) else (true,true,true)
def mleafX (op:Nat) (c:Cl) (st:Stt):B3:=if op=5 then (st.some,false,decide (0<st.nulls)) else if st.some=true then withM (decide (0<st.nulls)) op c st else (false,decide (0<st.nulls),false)
def mleafM (l:List Fd) (sts:List Stt) (op f:Nat) (c:Cl):B3 :=
 match place l f with
 | none=>(true,true,true)
 | some j=>match sts[j]? with
  | none=>(true,true,true)
  | some st=>mleafX op c st
 mutual
def mayM (l:List Fd) (sts:List Stt):PT->B3
 | .node op f c ks=>if op=6 then mayAnd l sts ks (false,false,true) else if op=7 then mayOr l sts ks (true,false,false) else if op=8 then mayNot l sts ks else mleafM l sts op f c
def mayAnd (l:List Fd) (sts:List Stt):List PT->B3->B3
 | [],a=>a
 | k::ks,a=>mayAnd l sts ks (togA a (mayM l sts k))
def mayOr (l:List Fd) (sts:List Stt):List PT->B3->B3
 | [],a=>a
 | k::ks,a=>mayOr l sts ks (togO a (mayM l sts k))
def mayNot (l:List Fd) (sts:List Stt):List PT->B3
 | []=>(false,true,false)
 | k::_=>conM (mayM l sts k)
 end
 mutual
def Len:PT->Prop
 | .node _ _ c ks=>c.2.2.length<=300/\LenAll ks
def LenAll:List PT->Prop
 | []=>True
 | k::ks=>Len k/\LenAll ks
 end
 mutual
def Okp:PT->Prop
 | .node op f c ks=>op<256/\f<4294967296/\Okc c/\OkpAll ks
def OkpAll:List PT->Prop
 | []=>True
 | k::ks=>Okp k/\OkpAll ks
 end
theorem LenAll.get {ks:List PT} (h:LenAll ks):∀ k∈ks,Len k:=by
 induction ks with
 | nil=>intro k hk;simp at hk
 | cons a ks ih =>
  intro k hk
  simp only [LenAll] at h
  rcases List.mem_cons.1 hk with rfl | hk
  ·exact h.1
  ·exact ih h.2 k hk
theorem OkpAll.get {ks:List PT} (h:OkpAll ks):∀ k∈ks,Okp k:=by
 induction ks with
 | nil=>intro k hk;simp at hk
 | cons a ks ih =>
  intro k hk
  simp only [OkpAll] at h
  rcases List.mem_cons.1 hk with rfl | hk
  ·exact h.1
  ·exact ih h.2 k hk
end Go.Proofs.YtpljdjmpamjkhaaGreatDoor
set_option linter.unusedVariables false
set_option linter.unusedSimpArgs false
set_option maxRecDepth 100000
namespace Go.Proofs.YtpljdjmpamjkhaaGreatDoor
open Go.RowKit Go.Lib
def NodeAt (W:World) (b off op f:Nat) (c:Cl) (kv:Value):Prop :=
 b<W.heap.size/\W.cell? ⟨b,off,none⟩=some (.int .u8 (op:Int))/\W.cell? ⟨b,off+1,none⟩=some (.int .u32 (f:Int))/\W.cell? ⟨b,off+2,none⟩=some (.int .u8 (c.1:Int))/\W.cell? ⟨b,off+3,none⟩=some (.int .i64 c.2.1)/\W.cell? ⟨b,off+4,none⟩=some (.string (bytesT c.2.2))/\W.cell? ⟨b,off+5,none⟩=some kv
theorem NodeAt.kept {W W':World} {b off op f:Nat} {c:Cl} {kv:Value} (h:NodeAt W b off op f c kv) (hb:Below W.heap.size W W'):NodeAt W' b off op f c kv:=by
 obtain ⟨h0,h1,h2,h3,h4,h5,h6⟩:=h
 have e:∀ o,W'.cell? ⟨b,o,none⟩=W.cell? ⟨b,o,none⟩:=fun o=>(bcell hb).1 b o h0
 exact ⟨Nat.lt_of_lt_of_le h0 hb.size,by rw [e];exact h1,by rw [e];exact h2,by rw [e];exact h3,by rw [e];exact h4,by rw [e];exact h5,by rw [e];exact h6⟩
 mutual
def Lies (W:World):Nat->Nat->PT->Prop
 | b,off,.node op f c ks=>∃ a cap,NodeAt W b off op f c (.slice a ks.length cap)/\ks.length<=cap/\cap<=maxLen/\(0<ks.length->∃ g o,a=some ⟨g,o,none⟩/\KidsAt W g o ks)
def KidsAt (W:World):Nat->Nat->List PT->Prop
 | _,_,[]=>True
 | g,o,k::ks=>Lies W g o k/\KidsAt W g (o+6) ks
 end
theorem KidsAt.mono {W W':World}:∀ {ks:List PT} {g o:Nat},(∀ k∈ks,∀ b off,Lies W b off k->Lies W' b off k)->KidsAt W g o ks->KidsAt W' g o ks
 | [],g,o,_,_=>by simp [KidsAt]
 | k::ks,g,o,hm,h=>by
  simp only [KidsAt] at h ⊢
  exact ⟨hm k (by simp) _ _ h.1,KidsAt.mono (fun x hx=>hm x (by simp [hx])) h.2⟩
theorem Lies.kept {W W':World} (hb:Below W.heap.size W W'):∀ (t:PT) (b off:Nat),Lies W b off t->Lies W' b off t:=by
 refine PT.ind fun op f c ks ih b off h=>?_
 simp only [Lies] at h ⊢
 obtain ⟨a,cap,h1,h2,h3,h4⟩:=h
 refine ⟨a,cap,h1.kept hb,h2,h3,fun h0=>?_⟩
 obtain ⟨g,o,h5,h6⟩:=h4 h0
 exact ⟨g,o,h5,KidsAt.mono ih h6⟩
theorem KidsAt.kept {W W':World} (hb:Below W.heap.size W W') {ks:List PT} {g o:Nat} (h:KidsAt W g o ks):KidsAt W' g o ks:=KidsAt.mono (fun k _=>Lies.kept hb k) h
def Kids (W:World) (v:Value) (ks:List PT):Prop:=∃ a cap,v=.slice a ks.length cap/\ks.length<=cap/\cap<=maxLen/\(0<ks.length->∃ g o,a=some ⟨g,o,none⟩/\KidsAt W g o ks)
theorem Kids.kept {W W':World} {v:Value} {ks:List PT} (h:Kids W v ks) (hb:Below W.heap.size W W'):Kids W' v ks:=by
 obtain ⟨a,cap,h1,h2,h3,h4⟩:=h
 refine ⟨a,cap,h1,h2,h3,fun h0=>?_⟩
 obtain ⟨g,o,h5,h6⟩:=h4 h0
 exact ⟨g,o,h5,h6.kept hb⟩
theorem Kids.form {W:World} {v:Value} {ks:List PT} (h:Kids W v ks):∃ a cap,v=.slice a ks.length cap/\ks.length<=cap/\cap<=maxLen:=by
 obtain ⟨a,cap,h1,h2,h3,_⟩:=h
 exact ⟨a,cap,h1,h2,h3⟩
theorem Lies.open {W:World} {b off op f:Nat} {c:Cl} {ks:List PT} (h:Lies W b off (.node op f c ks)):∃ a cap,NodeAt W b off op f c (.slice a ks.length cap)/\Kids W (.slice a ks.length cap) ks:=by
 simp only [Lies] at h
 obtain ⟨a,cap,h1,h2,h3,h4⟩:=h
 exact ⟨a,cap,h1,a,cap,rfl,h2,h3,h4⟩
theorem Lies.shut {W:World} {b off op f:Nat} {c:Cl} {ks:List PT} {v:Value} (h:NodeAt W b off op f c v) (hk:Kids W v ks):Lies W b off (.node op f c ks):=by
 obtain ⟨a,cap,rfl,h2,h3,h4⟩:=hk
 simp only [Lies]
 exact ⟨a,cap,h,h2,h3,h4⟩
theorem KindOfC {c:Cl} (hf:Fine c) (w:World):Calls Tryz.prog 100 #[valC c] w fun e w'=>e=.returned (.int .u8 (c.1:Int))/\w'=w:=KindOf_any hf.val w
theorem of_any {c:Cl} (hok:Okc c) (w:World):Calls Tryz.prog 217 #[.agg #[.int .u8 (c.1:Int),.int .i64 c.2.1,.string (bytesT c.2.2)]] w fun e w'=>e=.returned (.tuple #[valC (fixC c),.int .i64 (flt (c.1:Int) c.2.1 (bytesT c.2.2))])/\Below w.heap.size w w':=by
 by_cases h:flt (c.1:Int) c.2.1 (bytesT c.2.2)=0
 ·refine (of_good _ _ _ (by omega) h w).mono ?_
  rintro e w1 ⟨⟨v,rfl,hv⟩,hb⟩
  have hfx:fixC c=c:=if_pos h
  have hf:Fine c:=by have:=fixC_fine hok;rwa [hfx] at this
  rw [hfx,h,val_valC hf hv]
  exact ⟨rfl,hb⟩
 ·refine (of_bad _ _ _ (by simpa using h) w).mono ?_
  rintro e w1 ⟨rfl,hb⟩
  have hfx:fixC c=nul:=if_neg h
  rw [hfx]
  exact ⟨rfl,hb⟩
theorem bound_any {c:Cl} (hok:Okc c) (w:World):Calls Tryz.prog 219 #[.agg #[.int .u8 (c.1:Int),.int .i64 c.2.1,.string (bytesT c.2.2)]] w fun e w'=>e=.returned (valC (fixC c))/\Below w.heap.size w w':=by
 have HO:=hidden hok
 have HB0:=hidden (below_one w (.cells #[.int .u8 (c.1:Int),.int .i64 c.2.1,.string (bytesT c.2.2)] 52))
 obtain ⟨c0,c1,c2⟩:=cell_new3 w (.int .u8 (c.1:Int)) (.int .i64 c.2.1) (.string (bytesT c.2.2)) 52
 clear hok
 go_enter Tryz.func219,Tryz.ntmps219
 go_wp2_with fail
 refine (of_any HO.out _).mono ?_
 rintro e w1 ⟨rfl,hb⟩
 go_wp2_with fail
 go_ret
 exact ⟨rfl,below_then HB0.out hb⟩
theorem Fine.short {c:Cl} (h:Fine c):(bytesT c.2.2).size<=64:=by
 rw [bytesT_size]
 rcases h with rfl | ⟨n,rfl,_⟩ | ⟨b,rfl,_⟩ | ⟨s,rfl,hs,_⟩
 ·simp [nul]
 ·simp
 ·simp
 ·exact hs
theorem uncut_any {c:Cl} (hf:Fine c) (w:World):Calls Tryz.prog 220 #[valC c] w fun e w'=>e=.returned (.bool (uncutM c))/\Below w.heap.size w w':=by
 have HF:=hidden hf
 clear hf
 go_enter Tryz.func220,Tryz.ntmps220
 go_wp2_with fail
 refine (cell_any HF.out.val _).mono ?_
 rintro e w1 ⟨rfl,hb⟩
 have HB:=hidden hb
 clear hb
 obtain ⟨c0,c1,c2⟩:=cell_new3 w1 (.int .u8 (c.1:Int)) (.int .i64 c.2.1) (.string (bytesT c.2.2)) 52
 have HB1:=hidden (below_one w1 (.cells #[.int .u8 (c.1:Int),.int .i64 c.2.1,.string (bytesT c.2.2)] 52))
 go_wp2_with fail
 refine (count_any _ (by have:=HF.out.short;omega) _).mono ?_
 rintro e w2 ⟨rfl,hb⟩
 have HN:Hid (uncutM c=decide ((((V (lb (bytesT c.2.2))).length:Nat):Int)<4)):=hidden (by unfold uncutM;exact decide_eq_decide.2 (by omega))
 generalize (V (lb (bytesT c.2.2))).length=n at *
 go_wp2_with fail
 go_ret
 exact ⟨ret_bool HN.out.symm,below_then (below_then HB.out HB1.out) hb⟩
theorem unclean_any {c:Cl} (hf:Fine c) (w:World):Calls Tryz.prog 102 #[valC c] w fun e w'=>e=.returned (.bool (!clean (lb (bytesT c.2.2))))/\Below w.heap.size w w':=by
 have HF:=hidden hf
 clear hf
 go_enter Tryz.func102,Tryz.ntmps102
 go_wp2_with fail
 refine (cell_any HF.out.val _).mono ?_
 rintro e w1 ⟨rfl,hb⟩
 have HB:=hidden hb
 clear hb
 obtain ⟨c0,c1,c2⟩:=cell_new3 w1 (.int .u8 (c.1:Int)) (.int .i64 c.2.1) (.string (bytesT c.2.2)) 52
 have HB1:=hidden (below_one w1 (.cells #[.int .u8 (c.1:Int),.int .i64 c.2.1,.string (bytesT c.2.2)] 52))
 go_wp2_with fail
 refine (clean_any _ (by have:=HF.out.short;omega) _).mono ?_
 rintro e w2 ⟨rfl,hb⟩
 obtain ⟨n,hn⟩:∃ n,n=clean (lb (bytesT c.2.2)):=⟨_,rfl⟩
 rw [← hn]
 have HN:=hidden hn
 clear hn
 go_wp2_with fail
 go_ret
 exact ⟨ret_bool (by rw [HN.out]),below_then (below_then HB.out HB1.out) hb⟩
theorem isnull_any {c:Cl} (hf:Fine c) (w:World):Calls Tryz.prog 99 #[valC c] w fun e w'=>e=.returned (.bool (decide (c.1=0)))/\Below w.heap.size w w':=by
 have HF:=hidden hf
 clear hf
 go_enter Tryz.func99,Tryz.ntmps99
 go_wp2_with fail
 refine (KindOfC HF.out _).mono ?_
 rintro e w1 ⟨rfl,rfl⟩
 go_wp2_with fail
 go_ret
 refine ⟨ret_bool ?_,Below.refl _ _⟩
 rw [Bool.eq_iff_iff]
 simp
theorem isN_any (b:Bool) (w:World):Calls Tryz.prog 221 #[.bool b] w fun e w'=>e=.returned (.int .u8 (isM b:Int))/\w'=w:=by
 refine (is_any b w).mono ?_
 rintro e w1 ⟨rfl,rfl⟩
 refine ⟨?_,rfl⟩
 cases b<;>rfl
end Go.Proofs.YtpljdjmpamjkhaaGreatDoor
