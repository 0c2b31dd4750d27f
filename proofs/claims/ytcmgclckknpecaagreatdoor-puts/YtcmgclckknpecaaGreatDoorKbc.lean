import Derived.Test.YtcmgclckknpecaaGreatDoorKah
import Derived.Test.YtcmgclckknpecaaGreatDoorKaz
import Derived.Lib.Strings
import Derived.Test.YtcmgclckknpecaaGreatDoorKan
import Derived.Test.YtcmgclckknpecaaGreatDoorKay
import Derived.Deep.RegionHeld3
import Derived.Test.YtcmgclckknpecaaGreatDoorKao
namespace Go.Proofs.YtcmgclckknpecaaGreatDoor
open Go.RowKit
theorem pl_wit (c a b:Nat):Pl.wit c a b=decide (a≤c∧c≤b):=by simp [Pl.wit]
set_option maxHeartbeats 1000000 in
theorem rdig_any (c:Nat) (w:World):Calls Tryz.prog 226 #[.int .i64 (c:Int)] w fun e w'=>e=.returned (.bool (Pl.isDig c))∧w'=w:=by
 go_enter Tryz.func226,Tryz.ntmps226
 go_wp2_with fail
 all_goals go_ret
 all_goals refine ⟨ret_bool ?_,rfl⟩
 all_goals (rw [Bool.eq_iff_iff];simp only [Pl.isDig,pl_wit,decide_eq_true_eq,Bool.false_eq_true,false_iff] at *;omega)
set_option maxHeartbeats 1000000 in
theorem rsgn_any (c:Nat) (w:World):Calls Tryz.prog 223 #[.int .i64 (c:Int)] w fun e w'=>e=.returned (.bool (Pl.isSgn c))∧w'=w:=by
 go_enter Tryz.func223,Tryz.ntmps223
 go_wp2_with fail
 all_goals go_ret
 all_goals refine ⟨ret_bool ?_,rfl⟩
 all_goals (rw [Bool.eq_iff_iff];simp only [Pl.isSgn,pl_wit,decide_eq_true_eq,Bool.false_eq_true,false_iff] at *;omega)
set_option maxHeartbeats 1000000 in
theorem rmrk_any (c:Nat) (w:World):Calls Tryz.prog 224 #[.int .i64 (c:Int)] w fun e w'=>e=.returned (.bool (Pl.isMrk c))∧w'=w:=by
 go_enter Tryz.func224,Tryz.ntmps224
 go_wp2_with fail
 all_goals go_ret
 all_goals refine ⟨ret_bool ?_,rfl⟩
 all_goals (rw [Bool.eq_iff_iff];simp only [Pl.isMrk,pl_wit,decide_eq_true_eq,Bool.false_eq_true,false_iff] at *;omega)
set_option maxHeartbeats 1000000 in
theorem rblk_any (c:Nat) (w:World):Calls Tryz.prog 222 #[.int .i64 (c:Int)] w fun e w'=>e=.returned (.bool (Pl.isBlk c))∧w'=w:=by
 go_enter Tryz.func222,Tryz.ntmps222
 go_wp2_with fail
 all_goals go_ret
 all_goals refine ⟨ret_bool ?_,rfl⟩
 all_goals (rw [Bool.eq_iff_iff];simp only [Pl.isBlk,Bool.or_eq_true,decide_eq_true_eq,beq_iff_eq,true_iff] at *;first | done | omega)
theorem isLet_iff (c:Nat):Pl.isLet c=true ↔ ((65≤c∧c≤90)∨(97≤c∧c≤122)∨(192≤c∧c≤255∧c≠215∧c≠247)∨(913≤c∧c≤969∧c≠930)∨(1040≤c∧c≤1103)):=by
 unfold Pl.isLet
 split
 ·simp only [Bool.false_eq_true,false_iff];omega
 ·simp only [pl_wit,Bool.or_eq_true,decide_eq_true_eq];omega
theorem isCap_iff (c:Nat):Pl.isCap c=true ↔ ((65≤c∧c≤90)∨(192≤c∧c≤222∧c≠215)∨(913≤c∧c≤937∧c≠930)∨(1040≤c∧c≤1071)):=by
 unfold Pl.isCap
 split
 ·simp only [Bool.false_eq_true,false_iff];omega
 ·simp only [pl_wit,Bool.or_eq_true,decide_eq_true_eq];omega
set_option maxHeartbeats 1000000 in
theorem rlet_any (c:Nat) (w:World):Calls Tryz.prog 225 #[.int .i64 (c:Int)] w fun e w'=>e=.returned (.bool (Pl.isLet c))∧w'=w:=by
 go_enter Tryz.func225,Tryz.ntmps225
 go_wp2_with fail
 all_goals go_ret
 all_goals refine ⟨ret_bool ?_,rfl⟩
 all_goals (rw [Bool.eq_iff_iff,isLet_iff])
 all_goals (first | (simp only [true_iff];omega) | (simp only [Bool.false_eq_true,false_iff];omega) | (simp only [decide_eq_true_eq];omega) | (simp_all;omega))
set_option maxHeartbeats 1000000 in
theorem rsml_any (c:Nat) (hc:c≤67108863) (w:World):Calls Tryz.prog 140 #[.int .i64 (c:Int)] w fun e w'=>e=.returned (.int .i64 (Pl.sml c:Int))∧w'=w:=by
 have hw:wrap64 ((c:Int)+32)=(c:Int)+32:=by unfold wrap64;omega
 go_enter Tryz.func140,Tryz.ntmps140
 go_wp2_with fail
 all_goals go_ret
 all_goals refine ⟨?_,rfl⟩
 all_goals first
  | (have hp : Pl.isCap c = true := (isCap_iff c).2 (by omega)
     rw [Pl.sml, if_pos hp]; simp)
  | (have hn : ¬ Pl.isCap c = true := fun h => by have := (isCap_iff c).1 h; omega
     rw [Pl.sml, if_neg hn]; done)
  | (have hn : ¬ Pl.isCap c = true := fun h => by have := (isCap_iff c).1 h; omega
     rw [Pl.sml, if_neg hn]; simp_all; done)
  | (have hp : Pl.isCap c = true := (isCap_iff c).2 (by simp_all; omega)
     rw [Pl.sml, if_pos hp]; simp)
  | (have hn : ¬ Pl.isCap c = true := fun h => by have := (isCap_iff c).1 h; simp_all; omega
     rw [Pl.sml, if_neg hn])
end Go.Proofs.YtcmgclckknpecaaGreatDoor
namespace Go.Proofs.YtcmgclckknpecaaGreatDoor
open Go.RowKit
structure Tx (g:Nat) (ws:List ByteArray) (w:World):Prop where
 c:∀ i (h:i<ws.length),w.cell? ⟨g,i,none⟩=some (.string (ws[i]))
def Pl.amg (x:ByteArray):List ByteArray→Bool
 | []=>false
 | y :: r=>if y=x then true else Pl.amg x r
set_option maxRecDepth 100000 in
set_option maxHeartbeats 1000000 in
theorem rin_any (g cap:Nat) (ws:List ByteArray) (a:Option Addr) (x:ByteArray) (w:World) (hT:Tx g ws w) (ha:0<ws.length→a=some ⟨g,0,none⟩) (hl:ws.length≤1000) (r:Bool) (HR:Hid (Pl.amg x ws=r)) :
  Calls Tryz.prog 143 #[.slice a ws.length cap,.string x] w fun e w'=>e=.returned (.bool r)∧w'=w:=by
 go_enter Tryz.func143,Tryz.ntmps143
 go_wp2_with fail
 go_loopw [5] (fun i wr=>∃ j:Nat,i=.int .i64 (j:Int)∧j≤ws.length∧Hid (Pl.amg x (ws.drop j)=r)∧wr=w) (fun i _=>ws.length - (intOf i).toNat)
 case atStart=>exact ⟨0,rfl,by omega,HR,rfl⟩
 case round =>
  obtain ⟨j,rfl,hj,HJ,hw⟩:=hrel
  subst hw
  by_cases hjl:j<ws.length
  ·have hjI:(j:Int)<(ws.length:Int):=by omega
   obtain rfl:=ha (by omega)
   have hc:=hT.c j hjl
   have hd:ws.drop j=ws[j] :: ws.drop (j+1):=List.drop_eq_getElem_cons hjl
   obtain ⟨y,hy⟩:∃ y,ws[j]=y:=⟨_,rfl⟩
   rw [hy] at hc hd
   have hJ:=HJ.out
   rw [hd,Pl.amg] at hJ
   clear hd hy
   by_cases hyx:y=x
   ·subst hyx
    rw [if_pos rfl] at hJ
    subst hJ
    go_wp2_with fail
    go_ret
    exact ⟨rfl,rfl⟩
   ·rw [if_neg hyx] at hJ
    have HJ2:Hid (Pl.amg x (ws.drop (j+1))=r):=hJ
    clear hJ
    go_wp2_with fail
    ·exfalso
     rename_i hno
     rw [ByteArray.toList_eq,ByteArray.toList_eq,beq_iff_eq] at hno
     exact hyx (ByteArray.ext (Array.toList_inj.1 hno))
    exact ⟨⟨j+1,by go_num,by omega,HJ2,by trivial⟩,by simp [intOf];omega⟩
  ·have hjI:¬ (j:Int)<(ws.length:Int):=by omega
   have hJ:=HJ.out
   rw [List.drop_of_length_le (by omega)] at hJ
   have hr:r=false:=hJ.symm
   subst hr
   go_wp2_with fail
   go_ret
   exact ⟨rfl,rfl⟩
end Go.Proofs.YtcmgclckknpecaaGreatDoor
namespace Go.Proofs.YtcmgclckknpecaaGreatDoor
open Go.RowKit
theorem Tkr.one {base:Nat} {sv:Value} {cs:List Nat} {pos F T:Nat} {w:World} (hb:base≤w.heap.size) (h:CoR w sv cs) :
  Tkr base (.slice (some ⟨w.heap.size,0,none⟩) 1 1) [(cs,pos,F,T)] (w.alloc (.cells #[sv,.int .i64 (pos:Int),.int .i64 (F:Int),.int .i64 (T:Int)] 128)):=by
 refine ⟨[(sv,cs,pos,F,T)],rfl,⟨rfl,.inr ⟨w.heap.size,1,#[sv,.int .i64 (pos:Int),.int .i64 (F:Int),.int .i64 (T:Int)],rfl,hb,heap_alloc_new w _,Nat.le_refl _,by decide,rfl,rfl⟩⟩,?_⟩
 intro u hu
 obtain rfl:=List.mem_singleton.1 hu
 exact h.kp (Kp.alloc w _)
set_option maxRecDepth 100000 in
set_option maxHeartbeats 4000000 in
theorem rlen_any (cs:List Nat) (sa:Option Addr) (sc pos F T A B:Nat) (wa pa:Option Addr) (wn wc pn pc:Nat) (w:World) (hco:CoR w (.slice sa cs.length sc) cs) :
  Calls Tryz.prog 80 #[.agg #[.slice sa cs.length sc,.int .i64 (pos:Int),.int .i64 (F:Int),.int .i64 (T:Int)],.agg #[.string ⟨#[108,101,110]⟩,.slice wa wn wc,.slice pa pn pc,.int .i64 (A:Int),.int .i64 (B:Int)]] w fun e w'=>∃ v,e=.returned v∧Tkr w.heap.size v ((if A≤cs.length∧cs.length≤B then [cs] else []).map fun u=>(u,pos,F,T)) w'∧Below w.heap.size w w':=by
 obtain ⟨w0,hw0⟩:∃ w0,(w.alloc (.cells #[.slice sa cs.length sc,.int .i64 (pos:Int),.int .i64 (F:Int),.int .i64 (T:Int)] 128)).alloc (.cells #[.string ⟨#[108,101,110]⟩,.slice wa wn wc,.slice pa pn pc,.int .i64 (A:Int),.int .i64 (B:Int)] 207)=w0:=⟨_,rfl⟩
 have hT:Blk w.heap.size 128 #[.slice sa cs.length sc,.int .i64 (pos:Int),.int .i64 (F:Int),.int .i64 (T:Int)] w0:=by
  rw [← hw0]
  have h:Blk w.heap.size 128 #[.slice sa cs.length sc,.int .i64 (pos:Int),.int .i64 (F:Int),.int .i64 (T:Int)] (w.alloc (.cells #[.slice sa cs.length sc,.int .i64 (pos:Int),.int .i64 (F:Int),.int .i64 (T:Int)] 128)):=heap_alloc_new w _
  exact h.alloc _
 have hS:Blk (w.heap.size+1) 207 #[.string ⟨#[108,101,110]⟩,.slice wa wn wc,.slice pa pn pc,.int .i64 (A:Int),.int .i64 (B:Int)] w0:=by
  rw [← hw0]
  have h:=heap_alloc_new (w.alloc (.cells #[.slice sa cs.length sc,.int .i64 (pos:Int),.int .i64 (F:Int),.int .i64 (T:Int)] 128)) (.cells #[.string ⟨#[108,101,110]⟩,.slice wa wn wc,.slice pa pn pc,.int .i64 (A:Int),.int .i64 (B:Int)] 207)
  rw [World.size_alloc] at h
  exact h
 have hB0:Below w.heap.size w w0:=by rw [← hw0];exact ((Below.refl _ w).alloc (Nat.le_refl _) _).alloc (by simp) _
 have hsz0:w0.heap.size=w.heap.size+2:=by rw [← hw0];simp
 have hco0:=hco.kp (Kp.of_below hB0 (Nat.le_refl _))
 go_enter Tryz.func80,Tryz.ntmps80
 by_cases h1:A≤cs.length
 ·have h1I:¬ (cs.length:Int)<(A:Int):=by omega
  by_cases h2:cs.length≤B
  ·have h2I:¬ (B:Int)<(cs.length:Int):=by omega
   rw [if_pos ⟨h1,h2⟩]
   obtain ⟨⟨t0,t1,t2,t3⟩,tf⟩:=hT.four
   obtain ⟨s0,s1,s2,s3,s4,sf⟩:=hS.five
   go_wp2_with fail
   go_ret
   have ho:=Tkr.one (base:=w.heap.size) (w:=w0) (pos:=pos) (F:=F) (T:=T) (by omega) hco0
   rw [hsz0] at ho
   exact ⟨_,rfl,ho,hB0.alloc (by omega) _⟩
  ·have h2I:(B:Int)<(cs.length:Int):=by omega
   rw [if_neg (fun h=>h2 h.2)]
   obtain ⟨⟨t0,t1,t2,t3⟩,tf⟩:=hT.four
   obtain ⟨s0,s1,s2,s3,s4,sf⟩:=hS.five
   go_wp2_with fail
   go_ret
   exact ⟨_,rfl,Tkr.nil _ _,hB0⟩
 ·have h1I:(cs.length:Int)<(A:Int):=by omega
  rw [if_neg (fun h=>h1 h.1)]
  obtain ⟨⟨t0,t1,t2,t3⟩,tf⟩:=hT.four
  obtain ⟨s0,s1,s2,s3,s4,sf⟩:=hS.five
  go_wp2_with fail
  go_ret
  exact ⟨_,rfl,Tkr.nil _ _,hB0⟩
set_option maxRecDepth 100000 in
set_option maxHeartbeats 4000000 in
theorem rlow_any (cs:List Nat) (sa:Option Addr) (sc pos F T A B:Nat) (wa pa:Option Addr) (wn wc pn pc:Nat) (w:World) (hco:CoR w (.slice sa cs.length sc) cs) (hok:∀ c∈cs,Pl.okc c) (hl:cs.length≤300000000) :
  Calls Tryz.prog 80 #[.agg #[.slice sa cs.length sc,.int .i64 (pos:Int),.int .i64 (F:Int),.int .i64 (T:Int)],.agg #[.string ⟨#[108,111,119]⟩,.slice wa wn wc,.slice pa pn pc,.int .i64 (A:Int),.int .i64 (B:Int)]] w fun e w'=>∃ v,e=.returned v∧Tkr w.heap.size v ([cs.map Pl.sml].map fun u=>(u,pos,F,T)) w'∧Below w.heap.size w w':=by
 obtain ⟨w0,hw0⟩:∃ w0,(w.alloc (.cells #[.slice sa cs.length sc,.int .i64 (pos:Int),.int .i64 (F:Int),.int .i64 (T:Int)] 128)).alloc (.cells #[.string ⟨#[108,111,119]⟩,.slice wa wn wc,.slice pa pn pc,.int .i64 (A:Int),.int .i64 (B:Int)] 207)=w0:=⟨_,rfl⟩
 have hT:Blk w.heap.size 128 #[.slice sa cs.length sc,.int .i64 (pos:Int),.int .i64 (F:Int),.int .i64 (T:Int)] w0:=by
  rw [← hw0]
  have h:Blk w.heap.size 128 #[.slice sa cs.length sc,.int .i64 (pos:Int),.int .i64 (F:Int),.int .i64 (T:Int)] (w.alloc (.cells #[.slice sa cs.length sc,.int .i64 (pos:Int),.int .i64 (F:Int),.int .i64 (T:Int)] 128)):=heap_alloc_new w _
  exact h.alloc _
 have hS:Blk (w.heap.size+1) 207 #[.string ⟨#[108,111,119]⟩,.slice wa wn wc,.slice pa pn pc,.int .i64 (A:Int),.int .i64 (B:Int)] w0:=by
  rw [← hw0]
  have h:=heap_alloc_new (w.alloc (.cells #[.slice sa cs.length sc,.int .i64 (pos:Int),.int .i64 (F:Int),.int .i64 (T:Int)] 128)) (.cells #[.string ⟨#[108,111,119]⟩,.slice wa wn wc,.slice pa pn pc,.int .i64 (A:Int),.int .i64 (B:Int)] 207)
  rw [World.size_alloc] at h
  exact h
 have hB0:Below w.heap.size w w0:=by rw [← hw0];exact ((Below.refl _ w).alloc (Nat.le_refl _) _).alloc (by simp) _
 have hsz0:w0.heap.size=w.heap.size+2:=by rw [← hw0];simp
 have hco0:=hco.kp (Kp.of_below hB0 (Nat.le_refl _))
 obtain ⟨i0,hi,hz0,hz1,hz2⟩:=info_parts info3
 obtain ⟨ca,cc,cg,hsv,hC,hca,hcg⟩:=hco0.co
 obtain ⟨rfl,_,rfl⟩:sa=ca∧cs.length=cs.length∧sc=cc:=by injection hsv with a b c;exact ⟨a,b,c⟩
 clear hsv
 have hU0:Blk w0.heap.size 128 #[.slice none 0 0,.int .i64 (pos:Int),.int .i64 (F:Int),.int .i64 (T:Int)] (w0.alloc (.cells #[.slice none 0 0,.int .i64 (pos:Int),.int .i64 (F:Int),.int .i64 (T:Int)] 128)):=heap_alloc_new w0 _
 have hBU:Below w0.heap.size w0 (w0.alloc (.cells #[.slice none 0 0,.int .i64 (pos:Int),.int .i64 (F:Int),.int .i64 (T:Int)] 128)):=(Below.refl _ w0).alloc (Nat.le_refl _) _
 go_enter Tryz.func80,Tryz.ntmps80
 obtain ⟨⟨t0,t1,t2,t3⟩,tf⟩:=hT.four
 obtain ⟨s0,s1,s2,s3,s4,sf⟩:=hS.five
 go_wp2_with fail
 go_loopw [6] (fun iv_ wr=>∃ (q:Nat) (uv:Value),iv_=.int .i64 (q:Int)∧q≤cs.length∧Blk w0.heap.size 128 #[uv,.int .i64 (pos:Int),.int .i64 (F:Int),.int .i64 (T:Int)] wr∧wr.ownsRow w0.heap.size 3 1 uv q (((cs.take q).map Pl.sml).map iv)∧Below w0.heap.size w0 wr) (fun iv_ _=>cs.length - (intOf iv_).toNat)
 case atStart=>exact ⟨0,.slice none 0 0,rfl,by omega,by first | exact hU0 | (rw [hsz0] at hU0;exact hU0),World.ownsRow_nil _ _ _ _,hBU⟩
 case round =>
  clear hU0 hBU t0 t1 t2 t3 tf s0 s1 s2 s3 s4 sf hw0
  obtain ⟨q,uv,rfl,hq,hU,hrow,h2⟩:=hrel
  obtain ⟨w2,hw2⟩:∃ w2,w2=wr:=⟨_,rfl⟩
  subst hw2
  have hs2:=h2.size
  have hUl:=hU.lt
  have hT2:=hT.below h2
  obtain ⟨⟨a0,a1,a2,a3⟩,af⟩:=hT2.four
  obtain ⟨⟨u0,u1,u2,u3⟩,uf⟩:=hU.four
  rw [hsz0] at u0 u1 u2 u3 uf hUl
  have hTl:=hT2.lt
  by_cases hql:q<cs.length
  ·have hqI:(q:Int)<(cs.length:Int):=by omega
   obtain rfl:=hca (by omega)
   have c0:=(hC.below h2 (fun h=>hcg h)).c q hql
   have hokd:=hok _ (List.getElem_mem hql)
   obtain ⟨d,hd⟩:∃ d,cs[q]=d:=⟨_,rfl⟩
   have HD:Hid ((cs.take (q+1)).map Pl.sml=(cs.take q).map Pl.sml++[Pl.sml d]):=by
    show _=_;rw [List.take_succ_eq_append_getElem hql,List.map_append,hd];rfl
   rw [hd] at c0 hokd
   clear hd
   have hneU:uv.ownBlock≠some w0.heap.size:=row_ne_blk hrow hU (by decide)
   have HSM:Hid (∀ w,Calls Tryz.prog 140 #[.int .i64 (d:Int)] w fun e w'=>e=.returned (.int .i64 (Pl.sml d:Int))∧w'=w):=fun w=>rsml_any d (by unfold Pl.okc at hokd;omega) w
   have HK:Hid (∀ o w3,((w2.alloc o).drew).grownBy w3 uv.ownBlock→Blk (w.heap.size+2) 128 #[uv,.int .i64 (pos:Int),.int .i64 (F:Int),.int .i64 (T:Int)] w3):=fun o w3 hgw=>by
    have:=Blk.keep (show Blk w0.heap.size 128 #[uv,.int .i64 (pos:Int),.int .i64 (F:Int),.int .i64 (T:Int)] ((w2.alloc o).drew) from hU.alloc o) hgw hneU
    rw [hsz0] at this
    exact this
   go_wp2_with fail
   go_region_law
    (first | (refine step_append_lies _ (by rfl) _ _ _ (by rfl) w0.heap.size 3 i0 _ 1 8 Tryz.underlying55 hi hz0 hz1 hz2 rfl (by omega) uv q (((cs.take q).map Pl.sml).map iv) (by rfl) ((hrow.alloc _).drew) ⟨w2.heap.size,0,none⟩ 1 1 [.int .i64 (Pl.sml d:Int)] (by rfl) (by rfl) (World.news_of_block (cs:=#[.int .i64 (Pl.sml d:Int)]) (t:=3) (fr:=(0,0)) (heap_alloc_new w2 _)) (by simp [Value.oneCell']) (by omega) (by unfold maxLen;omega) (by omega) (by simp;omega) (w2.heap.size+1) (by simp) ?_;intro gn capn w3 hown1 hgrow hat hlt1;have hb3:=HK.out _ _ hgrow;obtain ⟨⟨j0,j1,j2,j3⟩,jf⟩:=hb3.four;have jf0:=jf 0;clear jf) | (go_simp;refine (HSM.out _).mono ?_;rintro e w' ⟨rfl,hw⟩;rw [hw];clear hw w'))
   all_goals
    go_wp2
    have hB3:Below w0.heap.size w0 w3:=Below.grown ((h2.alloc hs2 _).drew) hgrow (by simp;omega) fun j ej=>(ownBlock_lt hrow ej).2
    refine ⟨⟨q+1,_,by go_num,by omega,by rw [hsz0];exact hb3.f0 _,?_,hB3.setCell (p:=⟨w.heap.size+2,0,none⟩) (by show w0.heap.size≤w.heap.size+2;omega) _⟩,by simp [intOf];omega⟩
    rw [HD.out,List.map_append]
    exact ownsRow_set_other hown1 (row_ne_blk hown1 hb3 (by decide)) 0 _
  ·have hqI:¬ (q:Int)<(cs.length:Int):=by omega
   obtain rfl:q=cs.length:=by omega
   rw [List.take_length] at hrow
   have hcu:=(CoR.of_own hrow).1
   obtain ⟨ua,uc,ug,rfl,_⟩:=hcu.co
   obtain ⟨un,hun⟩:∃ k,(cs.map Pl.sml).length=k:=⟨_,rfl⟩
   rw [hun] at hcu hrow hU u0
   go_wp2_with fail
   go_ret
   exact ⟨_,rfl,Tkr.one (base:=w.heap.size) (w:=w2) (by omega) hcu,(hB0.trans (h2.mono (by omega))).alloc (by omega) _⟩
end Go.Proofs.YtcmgclckknpecaaGreatDoor
namespace Go.Proofs.YtcmgclckknpecaaGreatDoor
open Go.RowKit
theorem Pl.run_shift (p:Nat→Bool) (n i:Nat) (hi:i≤n):∀ m k,i+Pl.run (fun j=>p (i+j)) (n - i) m k=Pl.run p n m (i+k)
 | 0,k=>rfl
 | m+1,k=>by
  unfold Pl.run
  by_cases h:k<n - i∧p (i+k)=true
  ·rw [if_pos h,if_pos ⟨by omega,h.2⟩,Pl.run_shift p n i hi m (k+1)];rfl
  ·rw [if_neg h,if_neg (fun h2=>h ⟨by omega,h2.2⟩)]
theorem Pl.cdx_drop (xs:List (Nat × Nat × Nat)) (i k:Nat):Pl.cdx (xs.drop i) k=Pl.cdx xs (i+k):=by simp [Pl.cdx,List.getElem?_drop]
theorem Pl.tgAt_no (xs:List (Nat × Nat × Nat)) (i:Nat) (h:Pl.cdx xs i≠60):Pl.tgAt xs i=0:=by
 unfold Pl.tgAt Pl.tgz
 rw [Pl.cdx_drop,Nat.add_zero,if_neg h]
theorem Pl.tgAt_run (xs:List (Nat × Nat × Nat)) (i:Nat) (h:i<xs.length) (h60:Pl.cdx xs i=60):∃ m R,xs.length≤i+1+m∧Pl.run (fun k=>!decide (Pl.cdx xs k=62)) xs.length m (i+1)=R∧Pl.tgAt xs i=if R<xs.length then R+1 - i else 0:=by
 obtain ⟨m,hm⟩:∃ m,xs.length - i=m+1:=⟨xs.length - i - 1,by omega⟩
 refine ⟨m,_,by omega,rfl,?_⟩
 have hs:=Pl.run_shift (fun k=>!decide (Pl.cdx xs k=62)) xs.length i (by omega) m 1
 have hr:Pl.run (fun j=>!decide (Pl.cdx xs (i+j)=62)) (xs.length - i) (xs.length - i) 0=Pl.run (fun j=>!decide (Pl.cdx xs (i+j)=62)) (xs.length - i) m 1:=by
  conv=>lhs;rw [hm];unfold Pl.run
  rw [← hm,if_pos ⟨by omega,by rw [Nat.add_zero,h60];rfl⟩]
 unfold Pl.tgAt Pl.tgz
 simp only [Pl.cdx_drop,List.length_drop,Nat.add_zero]
 rw [if_pos h60,hr,← hs]
 by_cases hR:Pl.run (fun j=>!decide (Pl.cdx xs (i+j)=62)) (xs.length - i) m 1<xs.length - i
 ·rw [if_pos hR,if_pos (by omega)];omega
 ·rw [if_neg hR,if_neg (by omega)]
set_option maxRecDepth 100000 in
set_option maxHeartbeats 4000000 in
theorem rtags_any (g cap:Nat) (xs:List (Nat × Nat × Nat)) (a:Option Addr) (w:World) (hC:Cr g 0 xs w) (ha:0<xs.length→a=some ⟨g,0,none⟩) (hg:0<xs.length→g<w.heap.size) (hl:xs.length≤268435456) :
  Calls Tryz.prog 76 #[.slice a xs.length cap] w fun e w'=>∃ v,e=.returned v∧w'.ownsRow w.heap.size 283 3 v (Pl.tgs xs xs.length 0).length ((Pl.tgs xs xs.length 0).flatMap enc)∧Below w.heap.size w w':=by
 obtain ⟨i0,hi,hz0,hz1,hz2⟩:=info_parts info283
 obtain ⟨ys,hys⟩:∃ ys,Pl.tgs xs xs.length 0=ys:=⟨_,rfl⟩
 rw [hys]
 have hlen:ys.length≤xs.length:=by have:=Pl.tgs_length xs xs.length 0 (by omega);rw [hys] at this;omega
 have HYS:Hid (Pl.tgs xs xs.length 0=ys):=hys
 clear hys
 go_enter Tryz.func76,Tryz.ntmps76
 go_wp2
 go_loopw [3,4] (fun l i wr=>∃ (k m:Nat) (pre:List (Nat × Nat × Nat)),i=.int .i64 (k:Int)∧k≤xs.length∧xs.length≤k+m∧Hid (pre++Pl.tgs xs m k=ys) ∧
  wr.ownsRow w.heap.size 283 3 l pre.length (pre.flatMap enc)∧Below w.heap.size w wr) (fun _ i _=>xs.length - (intOf i).toNat)
 case atStart=>exact ⟨0,xs.length,[],rfl,by omega,by omega,HYS,World.ownsRow_nil _ _ _ _,Below.refl _ _⟩
 case round =>
  obtain ⟨k,m,pre,rfl,hk,hkm,HX,hrow,hB⟩:=hrel
  by_cases hlt:k<xs.length
  ·obtain rfl:=ha (by omega)
   have hg':=hg (by omega)
   have hs1:=hB.size
   have hltI:(k:Int)<(xs.length:Int):=by omega
   obtain ⟨⟨c,f,t⟩,hx⟩:∃ x,xs[k]=x:=⟨_,rfl⟩
   obtain ⟨k0,k1,k2⟩:=(hC.below hB fun _=>hg').c k hlt
   rw [hx] at k0 k1 k2
   rw [Nat.zero_add] at k0 k1 k2
   simp only at k0 k1 k2
   have hcx:Pl.cdx xs k=c:=by rw [Pl.cdx_eq hlt,hx]
   have hfx:Pl.frx xs k=f:=by simp [Pl.frx,hlt,hx]
   have HP:Hid (Pl.tgAt xs k=0→∃ m',xs.length≤k+1+m'∧(pre++[(c,f,t)])++Pl.tgs xs m' (k+1)=ys∧pre.length<xs.length):=fun hz=>by
    obtain ⟨m',hm',hcs⟩:=Pl.tgs_pass hlt hkm hz
    have:=HX.out
    rw [hcs,hx] at this
    have e:(pre++[(c,f,t)])++Pl.tgs xs m' (k+1)=ys:=by rw [← this];simp
    refine ⟨m',hm',e,?_⟩
    have:=congrArg List.length e;simp at this;omega
   by_cases h60:c=60
   ·obtain ⟨m2,R,hm2,hR,hz⟩:=Pl.tgAt_run xs k hlt (by rw [hcx,h60])
    have HZ:Hid (Pl.tgAt xs k=if R<xs.length then R+1 - k else 0):=hz
    have HR:Hid (Pl.run (fun k=>!decide (Pl.cdx xs k=62)) xs.length m2 (k+1)=R):=hR
    have HQ:Hid (k<R→R<xs.length→∃ m',xs.length≤R+1+m'∧(pre++[(32,f,Pl.tox xs R)])++Pl.tgs xs m' (R+1)=ys∧pre.length<xs.length):=fun h1 h2=>by
     have hz':Pl.tgAt xs k=R+1 - k:=by rw [hz,if_pos h2]
     obtain ⟨m',hm',hcs⟩:=Pl.tgs_tag hlt hkm (by rw [hz'];omega)
     rw [hz',show k+(R+1 - k)=R+1 by omega] at hm' hcs
     have:=HX.out
     rw [hcs,hfx,show R+1 - 1=R by omega] at this
     have e:(pre++[(32,f,Pl.tox xs R)])++Pl.tgs xs m' (R+1)=ys:=by rw [← this];simp
     refine ⟨m',hm',e,?_⟩
     have:=congrArg List.length e;simp at this;omega
    subst h60
    clear hz hR hcx hx hfx HX
    go_wp2_with fail
    go_loopw [5,6] (fun en kv wi=>wi=wr∧∃ (q mm:Nat) (fd:Bool),kv=.int .i64 (q:Int)∧k+1≤q∧q≤xs.length∧en=.int .i64 ((if fd=true then R else k:Nat):Int)∧Hid (if fd=true then k<R∧R<xs.length else xs.length≤q+mm∧Pl.run (fun k=>!decide (Pl.cdx xs k=62)) xs.length mm q=R)) (fun _ kv _=>xs.length - (intOf kv).toNat)
    case atStart=>exact ⟨rfl,k+1,m2,false,by go_num,by omega,by omega,rfl,⟨by omega,HR.out⟩⟩
    case round =>
     obtain ⟨rfl,q,mm,fd,rfl,hq1,hq2,rfl,HH⟩:=hrel
     cases fd with
     | true =>
      have hh:=HH.out
      simp only [if_true] at hh
      obtain ⟨hR1,hR2⟩:=hh
      simp only [if_true]
      have hne:¬ (R:Int)=(k:Int):=by omega
      have hgt:(k:Int)<(R:Int):=by omega
      have hRI:(R:Int)<(xs.length:Int):=by omega
      obtain ⟨m',hm',HX2,hpl⟩:=HQ.out hR1 hR2
      obtain ⟨_,_,r2⟩:=(hC.below hB fun _=>hg').c R hR2
      rw [Nat.zero_add] at r2
      have htx:Pl.tox xs R=(xs[R]).2.2:=by simp [Pl.tox,hR2]
      rw [← htx] at r2
      obtain ⟨T,hT⟩:∃ T,Pl.tox xs R=T:=⟨_,rfl⟩
      rw [hT] at r2 HX2
      have HX3:Hid ((pre++[(32,f,T)])++Pl.tgs xs m' (R+1)=ys):=HX2
      clear HX2 htx hT HQ HP HZ HR HH
      have HNB:Hid (∀ W,(World.alloc W (.cells #[.int .i64 32,.int .i64 (f:Int),.int .i64 (T:Int)] 283)).heap[W.heap.size]?=some (.cells #[.int .i64 32,.int .i64 (f:Int),.int .i64 (T:Int)] 283 (0,0))):=fun W=>heap_alloc_new W _
      by_cases hqn:q<xs.length
      ·have hqI:(q:Int)<(xs.length:Int):=by omega
       go_wp2_with fail
       go_region_held3 (fun w'=>w'.cell? ⟨g,k*3+1,none⟩=some (.int .i64 (f:Int))∧w'.cell? ⟨g,R*3+2,none⟩=some (.int .i64 (T:Int))) (first | go_keep | (refine ⟨?_,?_⟩;exact (hB3.cell (p:=⟨g,k*3+1,none⟩) hg').trans ((hB.cell (p:=⟨g,k*3+1,none⟩) hg').symm.trans k1);exact (hB3.cell (p:=⟨g,R*3+2,none⟩) hg').trans ((hB.cell (p:=⟨g,R*3+2,none⟩) hg').symm.trans r2))) ((refine step_append_lies _ (by rfl) _ _ 203 (by rfl) w.heap.size 283 i0 (.agg #[.int .i64 0,.int .i64 0,.int .i64 0]) 3 24 Tryz.underlying203 hi hz0 hz1 hz2 rfl (by decide) _ pre.length (pre.flatMap enc) (by rfl) (hrow.drew.alloc _) ⟨wr.heap.size,0,none⟩ 1 1 (enc (32,f,T)) (by rfl) rfl (World.news_of_block (HNB.out wr.drew)) (enc_one _) (by decide) (by unfold maxLen;omega) (by omega) (by simp;omega) (wr.heap.size+1) (by simp) ?_;intro gn capn w3 hown1 hgrow hat hlt1;have hB3:Below w.heap.size w w3:=Below.grown (hB.drew.alloc (by simp;omega) _) hgrow (by simp;omega) fun j ej=>(ownBlock_lt hrow ej).2))
       go_wp2_with fail
       refine ⟨⟨R+1,m',pre++[(32,f,T)],by go_num,by omega,hm',HX3,?_,hB3⟩,by simp [intOf];omega⟩
       rw [enc_snoc,List.length_append]
       exact hown1
      ·have hqI:¬ (q:Int)<(xs.length:Int):=by omega
       go_wp2_with fail
       go_region_held3 (fun w'=>w'.cell? ⟨g,k*3+1,none⟩=some (.int .i64 (f:Int))∧w'.cell? ⟨g,R*3+2,none⟩=some (.int .i64 (T:Int))) (first | go_keep | (refine ⟨?_,?_⟩;exact (hB3.cell (p:=⟨g,k*3+1,none⟩) hg').trans ((hB.cell (p:=⟨g,k*3+1,none⟩) hg').symm.trans k1);exact (hB3.cell (p:=⟨g,R*3+2,none⟩) hg').trans ((hB.cell (p:=⟨g,R*3+2,none⟩) hg').symm.trans r2))) ((refine step_append_lies _ (by rfl) _ _ 203 (by rfl) w.heap.size 283 i0 (.agg #[.int .i64 0,.int .i64 0,.int .i64 0]) 3 24 Tryz.underlying203 hi hz0 hz1 hz2 rfl (by decide) _ pre.length (pre.flatMap enc) (by rfl) (hrow.drew.alloc _) ⟨wr.heap.size,0,none⟩ 1 1 (enc (32,f,T)) (by rfl) rfl (World.news_of_block (HNB.out wr.drew)) (enc_one _) (by decide) (by unfold maxLen;omega) (by omega) (by simp;omega) (wr.heap.size+1) (by simp) ?_;intro gn capn w3 hown1 hgrow hat hlt1;have hB3:Below w.heap.size w w3:=Below.grown (hB.drew.alloc (by simp;omega) _) hgrow (by simp;omega) fun j ej=>(ownBlock_lt hrow ej).2))
       go_wp2_with fail
       refine ⟨⟨R+1,m',pre++[(32,f,T)],by go_num,by omega,hm',HX3,?_,hB3⟩,by simp [intOf];omega⟩
       rw [enc_snoc,List.length_append]
       exact hown1
     | false =>
      have hh:=HH.out
      simp only [Bool.false_eq_true,if_false] at hh
      obtain ⟨hqm,hrun⟩:=hh
      simp only [Bool.false_eq_true,if_false]
      by_cases hqn:q<xs.length
      ·have hqI:(q:Int)<(xs.length:Int):=by omega
       obtain ⟨q0,_,_⟩:=(hC.below hB fun _=>hg').c q hqn
       rw [← Pl.cdx_eq hqn,Nat.zero_add] at q0
       obtain ⟨d,hd⟩:∃ d,Pl.cdx xs q=d:=⟨_,rfl⟩
       rw [hd] at q0
       by_cases h62:d=62
       ·have hx:=Pl.run_no (fun h=>by have:=h.2;rw [hd,h62] at this;simp at this) hrun
        subst h62
        clear hrun hd HH HQ HP HZ HR
        go_wp2_with fail
        subst hx
        exact ⟨⟨by trivial,R+1,0,true,by go_num,by omega,by omega,by trivial,⟨by omega,hqn⟩⟩,by simp [intOf];omega⟩
       ·obtain ⟨m3,hm3,hr3⟩:=Pl.run_yes hqn (by rw [hd];simp [h62]) hqm hrun
        have h62I:¬ (d:Int)=62:=by omega
        have HK2:Hid (if false=true then k<R∧R<xs.length else xs.length≤q+1+m3∧Pl.run (fun k=>!decide (Pl.cdx xs k=62)) xs.length m3 (q+1)=R):=⟨by omega,hr3⟩
        clear hrun hr3 hd HH HQ HP HZ HR
        go_wp2_with fail
        exact ⟨⟨by trivial,q+1,m3,false,by go_num,by omega,by omega,by trivial,HK2⟩,by simp [intOf];omega⟩
      ·have hqI:¬ (q:Int)<(xs.length:Int):=by omega
       have hx:=Pl.run_no (fun h=>hqn h.1) hrun
       obtain ⟨m',hm',HX2,hpl⟩:=HP.out (by rw [HZ.out,if_neg (by omega)])
       have HX3:Hid ((pre++[(60,f,t)])++Pl.tgs xs m' (k+1)=ys):=HX2
       clear HX2 hrun hx HH HQ HP HZ HR
       go_wp2_with (at_builtin;go_must (refine wpList_append_lies _ (by rfl) _ _ 203 (by rfl) w.heap.size 283 i0 (.agg #[.int .i64 0,.int .i64 0,.int .i64 0]) 3 24 Tryz.underlying203 hi hz0 hz1 hz2 rfl (by decide) _ pre.length (pre.flatMap enc) (by rfl) (hrow.alloc _) ⟨wr.heap.size,0,none⟩ 1 1 (enc (60,f,t)) (by rfl) rfl (World.news_of_block (heap_alloc_new wr _)) (enc_one _) (by decide) (by unfold maxLen;omega) (by omega) (by simp;omega) (wr.heap.size+1) (by simp) ?_);intro gn capn w3 hown1 hgrow hat hlt1;have hB3:Below w.heap.size w w3:=Below.grown (hB.alloc hs1 _) hgrow (by simp;omega) fun j ej=>(ownBlock_lt hrow ej).2)
       refine ⟨⟨k+1,m',pre++[(60,f,t)],by go_num,by omega,hm',HX3,?_,hB3⟩,by simp [intOf];omega⟩
       rw [enc_snoc,List.length_append]
       exact hown1
   ·have h60I:¬ (c:Int)=60:=by omega
    obtain ⟨m',hm',HX2,hpl⟩:=HP.out (Pl.tgAt_no xs k (by rw [hcx];exact h60))
    have HX3:Hid ((pre++[(c,f,t)])++Pl.tgs xs m' (k+1)=ys):=HX2
    clear HX2 HP hcx hx hfx HX
    go_wp2_with (at_builtin;go_must (refine wpList_append_lies _ (by rfl) _ _ 203 (by rfl) w.heap.size 283 i0 (.agg #[.int .i64 0,.int .i64 0,.int .i64 0]) 3 24 Tryz.underlying203 hi hz0 hz1 hz2 rfl (by decide) _ pre.length (pre.flatMap enc) (by rfl) (hrow.alloc _) ⟨wr.heap.size,0,none⟩ 1 1 (enc (c,f,t)) (by rfl) rfl (World.news_of_block (heap_alloc_new wr _)) (enc_one _) (by decide) (by unfold maxLen;omega) (by omega) (by simp;omega) (wr.heap.size+1) (by simp) ?_);intro gn capn w3 hown1 hgrow hat hlt1;have hB3:Below w.heap.size w w3:=Below.grown (hB.alloc hs1 _) hgrow (by simp;omega) fun j ej=>(ownBlock_lt hrow ej).2)
    refine ⟨⟨k+1,m',pre++[(c,f,t)],by go_num,by omega,hm',HX3,?_,hB3⟩,by simp [intOf];omega⟩
    rw [enc_snoc,List.length_append]
    exact hown1
  ·have hltI:¬ (k:Int)<(xs.length:Int):=by omega
   have hx:pre=ys:=by have:=HX.out;rw [Pl.tgs_nil hlt] at this;simpa using this
   subst hx
   go_wp2
   go_ret
   exact ⟨_,rfl,hrow,hB⟩
end Go.Proofs.YtcmgclckknpecaaGreatDoor
namespace Go.Proofs.YtcmgclckknpecaaGreatDoor
open Go.RowKit
theorem bt_at (s:ByteArray) (k:Nat) (h:k<s.size):Pl.bt s k=(s[k]).toNat:=by simp [Pl.bt,h]
set_option maxRecDepth 100000 in
set_option maxHeartbeats 1000000 in
theorem rstands_any (g cap:Nat) (xs:List (Nat × Nat × Nat)) (i:Nat) (s:ByteArray) (w:World) (hC:Cr g 0 xs w) (hg:g<w.heap.size) (hi:i<xs.length) (hl:xs.length≤268435456) (hs8:s.size≤268435456) (R:Bool) (HR0:Hid (Pl.bgn (Pl.cdx (xs.drop i)) (xs.drop i).length s=R)) :
  Calls Tryz.prog 137 #[.slice (some ⟨g,0,none⟩) xs.length cap,.int .i64 (i:Int),.string s] w fun e w'=>e=.returned (.bool R)∧Below w.heap.size w w':=by
 have hdl:(xs.drop i).length=xs.length - i:=List.length_drop
 have hwr:wrap64 ((i:Int)+(s.size:Int))=(i:Int)+(s.size:Int):=by unfold wrap64;omega
 by_cases hle:i+s.size≤xs.length
 ·have hleI:¬ (xs.length:Int)<(i:Int)+(s.size:Int):=by omega
  have HR:Hid (Pl.bgF (Pl.cdx (xs.drop i)) s s.size 0=R):=by
   have:=HR0.out;unfold Pl.bgn at this;rw [hdl,decide_eq_true (by omega),Bool.true_and] at this;exact this
  go_enter Tryz.func137,Tryz.ntmps137
  go_wp2_with fail
  go_loopw [7] (fun kv wr=>Below w.heap.size w wr∧∃ (k m:Nat),kv=.int .i64 (k:Int)∧k≤s.size∧s.size≤k+m∧Hid (Pl.bgF (Pl.cdx (xs.drop i)) s m k=R)) (fun kv _=>s.size - (intOf kv).toNat)
  case atStart=>exact ⟨Below.refl _ _,0,s.size,rfl,by omega,by omega,HR⟩
  case round =>
   obtain ⟨hB,k,m,rfl,hk,hkm,HK⟩:=hrel
   by_cases hlt:k<s.size
   ·have hltI:(k:Int)<(s.size:Int):=by omega
    have hikI:(i:Int)+(k:Int)<(xs.length:Int):=by omega
    have hw2:IntKind.i64.wrap ((i:Int)+(k:Int))=(i:Int)+(k:Int):=by rw [IntKind.wrap_i64];omega
    have hw3:(0:Int)≤(i:Int)+(k:Int):=by omega
    have hw4:((i:Int)+(k:Int)).toNat=i+k:=by omega
    have hc255:=UInt8.toNat_lt s[k]
    obtain ⟨m',rfl⟩:∃ m',m=m'+1:=⟨m - 1,by omega⟩
    obtain ⟨q0,_,_⟩:=(hC.below hB fun _=>hg).c (i+k) (by omega)
    rw [← Pl.cdx_eq (by omega),Nat.zero_add] at q0
    have hK:=HK.out
    rw [Pl.bgF,if_pos hlt,Pl.cdx_drop,bt_at s k hlt] at hK
    obtain ⟨d,hd⟩:∃ d,Pl.cdx xs (i+k)=d:=⟨_,rfl⟩
    obtain ⟨c,hc⟩:∃ c,(s[k]).toNat=c:=⟨_,rfl⟩
    rw [hd] at q0 hK
    rw [hc] at hK
    by_cases hdc:d=c
    ·have HK2:Hid (Pl.bgF (Pl.cdx (xs.drop i)) s m' (k+1)=R):=by rw [decide_eq_true hdc,Bool.true_and] at hK;exact hK
     clear hK hd HK
     subst hdc
     go_wp2_with fail
     go_quiet (fail)
     go_wp2
     exact ⟨⟨below_drewN hB _,k+1,m',by go_num,by omega,by omega,HK2⟩,by simp [intOf];omega⟩
    ·have hR:R=false:=by rw [decide_eq_false hdc,Bool.false_and] at hK;exact hK.symm
     have hdcI:¬ (d:Int)=(c:Int):=by omega
     subst hR
     clear hK hd HK
     go_wp2_with fail
     go_quiet (fail)
     go_wp2
     go_ret
     exact ⟨rfl,below_drewN hB _⟩
   ·have hltI:¬ (k:Int)<(s.size:Int):=by omega
    have hR:R=true:=by rw [← HK.out,Pl.bgF_end _ _ _ _ hlt]
    subst hR
    go_wp2_with fail
    go_ret
    exact ⟨rfl,hB⟩
 ·have hleI:(xs.length:Int)<(i:Int)+(s.size:Int):=by omega
  have hR:R=false:=by
   have:=HR0.out;unfold Pl.bgn at this;rw [hdl,decide_eq_false (by omega),Bool.false_and] at this;exact this.symm
  subst hR
  go_enter Tryz.func137,Tryz.ntmps137
  go_wp2_with fail
  go_ret
  exact ⟨rfl,Below.refl _ _⟩
end Go.Proofs.YtcmgclckknpecaaGreatDoor
namespace Go.Proofs.YtcmgclckknpecaaGreatDoor
open Go.RowKit
theorem bc_at (s:ByteArray) (k:Nat) (h:k<s.size):∃ h':k<(Pl.bc s).length,(Pl.bc s)[k]=(s[k]).toNat:=⟨by simp [Pl.bc];exact h,by simp [Pl.bc,ByteArray.getElem_eq_getElem_data]⟩
theorem bc_len (s:ByteArray):(Pl.bc s).length=s.size:=by simp [Pl.bc]
set_option maxRecDepth 100000 in
set_option maxHeartbeats 1000000 in
theorem rcodes_any (s:ByteArray) (w:World) (hs:s.size≤1099511627776) :
  Calls Tryz.prog 142 #[.string s] w fun e w'=>∃ v,e=.returned v∧CoR w' v (Pl.bc s)∧Below w.heap.size w w':=by
 obtain ⟨i0,hi,hz0,hz1,hz2⟩:=info_parts info3
 go_enter Tryz.func142,Tryz.ntmps142
 go_wp2
 go_loopw [3,4] (fun l i wr=>∃ k:Nat,i=.int .i64 (k:Int)∧k≤s.size∧wr.ownsRow w.heap.size 3 1 l k ((Pl.bc s).take k |>.map iv)∧Below w.heap.size w wr) (fun _ i _=>s.size - (intOf i).toNat)
 case atStart=>exact ⟨0,rfl,by omega,World.ownsRow_nil _ _ _ _,Below.refl _ _⟩
 case round =>
  obtain ⟨k,rfl,hk,hrow,hB⟩:=hrel
  by_cases hlt:k<s.size
  ·have hltI:(k:Int)<(s.size:Int):=by omega
   have hs1:=hB.size
   obtain ⟨h',he⟩:=bc_at s k hlt
   have hT:((Pl.bc s).take (k+1)).map iv=((Pl.bc s).take k).map iv++[iv (s[k]).toNat]:=by
    rw [List.take_succ_eq_append_getElem h',List.map_append,he];rfl
   obtain ⟨c,hc⟩:∃ c,(s[k]).toNat=c:=⟨_,rfl⟩
   rw [hc] at hT
   have HT:Hid (((Pl.bc s).take (k+1)).map iv=((Pl.bc s).take k).map iv++[iv c]):=hT
   have hc255:c<256:=by rw [← hc];exact (s[k]).toNat_lt
   clear hT he
   go_wp2_with (at_builtin;go_must (refine wpList_append_lies _ (by rfl) _ _ 55 (by rfl) w.heap.size 3 i0 (.int .i64 0) 1 8 Tryz.underlying55 hi hz0 hz1 hz2 rfl (by decide) _ k ((Pl.bc s).take k |>.map iv) (by rfl) (hrow.alloc _) ⟨wr.heap.size,0,none⟩ 1 1 [.int .i64 (c:Int)] (by rfl) rfl (World.news_of_block (heap_alloc_new wr _)) (by simp [Value.oneCell']) (by decide) (by unfold maxLen;omega) (by omega) (by simp;omega) (wr.heap.size+1) (by simp) ?_);intro gn capn w3 hown1 hgrow hat hlt1;have hB3:Below w.heap.size w w3:=Below.grown (hB.alloc hs1 _) hgrow (by simp;omega) fun j ej=>(ownBlock_lt hrow ej).2)
   refine ⟨⟨k+1,by go_num,by omega,?_,hB3⟩,by simp [intOf];omega⟩
   rw [HT.out]
   exact hown1
  ·have hltI:¬ (k:Int)<(s.size:Int):=by omega
   obtain rfl:k=s.size:=by omega
   rw [List.take_of_length_le (by rw [bc_len];exact Nat.le_refl _)] at hrow
   go_wp2
   go_ret
   exact ⟨_,rfl,(CoR.of_own hrow).1,hB⟩
end Go.Proofs.YtcmgclckknpecaaGreatDoor
