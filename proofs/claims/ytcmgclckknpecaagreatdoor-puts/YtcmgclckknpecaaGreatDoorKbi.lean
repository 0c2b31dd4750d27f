import Derived.Test.YtcmgclckknpecaaGreatDoorKbh
import Derived.Test.YtcmgclckknpecaaGreatDoorKau
import Derived.Test.YtcmgclckknpecaaGreatDoorKan
import Derived.Test.YtcmgclckknpecaaGreatDoorKbc
import Derived.Test.YtcmgclckknpecaaGreatDoorKay
import Derived.Test.YtcmgclckknpecaaGreatDoorKaz
namespace Go.Proofs.YtcmgclckknpecaaGreatDoor
namespace Pl
def stT (sp:Sp) (st:Ch3 × List Tc):Ch3 × List Tc:=if iS sp.nm<3 then (eaS sp st.1,st.2) else if iS sp.nm<6 then (st.1,cutC sp st.1) else (st.1,lgC sp st.2)
def runT:List Sp→Ch3 × List Tc→Option (List Tc)
 | [],st=>some st.2
 | sp :: r,st=>if (stT sp st).2.length≤300 then runT r (stT sp st) else none
theorem lateAll_big (ls:List Sp) (ts:List Tc) (h:¬ ts.length≤300):lateAll ls ts=none:=by
 cases ls with
 | nil=>rw [lateAll,if_neg h]
 | cons l r=>rw [lateAll,if_neg h]
theorem runT_late:∀ (ls:List Sp) (_:∀ l∈ls,¬ iS l.nm<6) (xs:Ch3) (ts:List Tc) (_:ts.length≤300),runT ls (xs,ts)=lateAll ls ts
 | [],_,xs,ts,ht=>by rw [runT,lateAll,if_pos ht]
 | l :: r,h,xs,ts,ht=>by
  have hl:=h l (List.mem_cons_self ..)
  have e:stT l (xs,ts)=(xs,lgC l ts):=by unfold stT;rw [if_neg (by omega),if_neg hl]
  rw [runT,lateAll,if_pos ht,e]
  by_cases hb:(lgC l ts).length≤300
  ·rw [if_pos hb]
   exact runT_late r (fun q hq=>h q (List.mem_cons_of_mem _ hq)) xs (lgC l ts) hb
  ·rw [if_neg hb,lateAll_big _ _ hb]
theorem runT_take (cu:Sp) (ls:List Sp) (hc:¬ iS cu.nm<3∧iS cu.nm<6) (hl:∀ l∈ls,¬ iS l.nm<6):∀ (es:List Sp) (_:∀ e∈es,iS e.nm<3) (xs:Ch3),runT (es++cu :: ls) (xs,[])=takeP es cu ls xs
 | [],_,xs=>by
  have e:stT cu (xs,[])=(xs,cutC cu xs):=by unfold stT;rw [if_neg hc.1,if_pos hc.2]
  rw [List.nil_append,runT,e]
  unfold takeP
  by_cases hb:(cutC cu xs).length≤300
  ·rw [if_pos hb,runT_late ls hl xs _ hb];rfl
  ·rw [if_neg hb];exact (lateAll_big _ _ hb).symm
 | e :: r,he,xs=>by
  have e1:stT e (xs,[])=(eaS e xs,[]):=by unfold stT;rw [if_pos (he e (List.mem_cons_self ..))]
  rw [List.cons_append,runT,e1,if_pos (by simp),runT_take cu ls hc hl r (fun q hq=>he q (List.mem_cons_of_mem _ hq)) (eaS e xs)]
  rfl
theorem iS_late:∀ i (h:i<lates.length),iS (lates[i])=6:=by decide +kernel
def ec:List Sp→Nat
 | []=>0
 | sp :: r=>(if iS sp.nm<3 then 1 else 0)+ec r
theorem ec_late:∀ ls:List Sp,(∀ l∈ls,¬ iS l.nm<6)→ec ls=0
 | [],_=>rfl
 | sp :: r,h=>by
  rw [ec,if_neg (by have:=h sp (List.mem_cons_self ..);omega),ec_late r (fun q hq=>h q (List.mem_cons_of_mem _ hq))]
theorem ec_take (cu:Sp) (ls:List Sp) (hc:¬ iS cu.nm<3) (hl:∀ l∈ls,¬ iS l.nm<6):∀ es:List Sp,ec (es++cu :: ls)≤es.length
 | []=>by rw [List.nil_append,ec,if_neg hc,ec_late ls hl];simp
 | e :: r=>by
  have:=ec_take cu ls hc hl r
  rw [List.cons_append,ec]
  split <;> simp only [List.length_cons] <;> omega
theorem rowC_some {α:Type} (s:ByteArray) (item:Nat→Bool × Nat) (cont:Nat→α):∀ m a,∀ x∈rowC s item cont m a,∃ a',x=cont a'
 | 0,a,x,h=>by simp [rowC] at h
 | m+1,a,x,h=>by
  rw [rowC] at h
  rcases List.mem_cons.1 h with rfl | h
  ·exact ⟨a,rfl⟩
  ·split at h
   ·exact rowC_some s item cont m _ x h
   ·simp at h
theorem ps_size (s:ByteArray) (hm:s.size≤80) (y:ByteArray) (k b:Nat):∀ p∈(spC s y k b).ps,p.1.size≤1000:=by
 intro p hp
 simp only [spC] at hp
 split at hp
 ·obtain ⟨a,rfl⟩:=rowC_some s (pairP s) (pairC s) _ b p hp
  show (s.extract a _).size≤1000
  rw [ByteArray.size_extract];omega
 ·simp at hp
theorem lo_of (s:ByteArray) (y:ByteArray) (b c:Nat) (h:body s 3 b=(true,c)):1≤(spC s y 3 b).lo∧(spC s y 3 b).lo≤9:=by
 have hb:bnds s b=(true,c):=by simpa [body] using h
 unfold bnds at hb
 by_cases h1:byteIn s 49 57 b=true
 ·obtain ⟨_,h2,h3⟩:=byteIn_lt h1
  simp only [spC,bndsC,if_true]
  omega
 ·rw [if_neg h1] at hb
  exact absurd (Prod.mk.inj hb).1 (by simp)
theorem laK_len (i:Nat) (sp:Sp) (hw:SpW sp) (cs:List Nat):(laK i sp cs).length≤9*cs.length+1001:=by
 unfold laK
 repeat' split
 all_goals try simp only [List.length_cons,List.length_nil,List.length_map]
 all_goals try omega
 ·have:=syF_le (en cs) sp.ps
  have:=hw.pl
  omega
 ·have:=grF_le cs sp.lo sp.hi cs.length 0
  have:=hw.hb
  unfold grm
  have h9:sp.hi*cs.length≤9*cs.length:=Nat.mul_le_mul_right _ hw.hb
  omega
 ·have:=edF_le cs sp.lo sp.hi cs.length 0
  have:=hw.hb
  unfold edg
  omega
end Pl
structure Kst (sp:Sp):Prop where
 ex:(∃ i,∃ hi:i<Pl.starts.length,sp.nm=Pl.starts[i])∨(∃ i,∃ hi:i<Pl.lates.length,sp.nm=Pl.lates[i]∧(4≤i→1≤sp.lo∧sp.lo≤9))
 w:SpW sp
 p8:∀ p∈sp.ps,p.1.size≤1000
theorem kst_E {s:ByteArray} (hm:s.size≤80) {e:Sp} (h:Pl.isE s e):Kst e∧Pl.iS e.nm<3:=by
 obtain ⟨i,b,c,hi,h3,rfl,hb,hbs⟩:=h
 exact ⟨⟨.inl ⟨i,hi,rfl⟩,Pl.spW_of s hm _ _ b c hbs hb,Pl.ps_size s hm _ _ b⟩,by rw [show (Pl.spC s (Pl.starts[i]) (Pl.kindS i) b).nm=Pl.starts[i] from rfl,Pl.iS_at i hi];exact h3⟩
theorem kst_C {s:ByteArray} (hm:s.size≤80) {e:Sp} (h:Pl.isC s e):Kst e∧¬ Pl.iS e.nm<3∧Pl.iS e.nm<6:=by
 obtain ⟨i,b,c,hi,h3,rfl,hb,hbs⟩:=h
 refine ⟨⟨.inl ⟨i,hi,rfl⟩,Pl.spW_of s hm _ _ b c hbs hb,Pl.ps_size s hm _ _ b⟩,?_⟩
 rw [show (Pl.spC s (Pl.starts[i]) (Pl.kindS i) b).nm=Pl.starts[i] from rfl,Pl.iS_at i hi]
 have:i<6:=hi
 omega
theorem kst_L {s:ByteArray} (hm:s.size≤80) {e:Sp} (h:Pl.isL s e):Kst e∧¬ Pl.iS e.nm<6:=by
 obtain ⟨i,b,c,hi,rfl,hb,hbs⟩:=h
 refine ⟨⟨.inr ⟨i,hi,rfl,fun h4=>?_⟩,Pl.spW_of s hm _ _ b c hbs hb,Pl.ps_size s hm _ _ b⟩,?_⟩
 ·have hk:Pl.kindL i=3:=by unfold Pl.kindL;rw [if_neg (by omega),if_neg (by omega),if_pos h4]
  rw [hk] at hb ⊢
  exact Pl.lo_of s _ b c hb
 ·rw [show (Pl.spC s (Pl.lates[i]) (Pl.kindL i) b).nm=Pl.lates[i] from rfl,Pl.iS_late i hi];omega
theorem enc_at (xs:List (Nat × Nat × Nat)):∀ (i:Nat) (hi:i<xs.length),(xs.flatMap enc)[i*3]?=some (.int .i64 ((xs[i]).1:Int))∧(xs.flatMap enc)[i*3+1]?=some (.int .i64 ((xs[i]).2.1:Int))∧(xs.flatMap enc)[i*3+2]?=some (.int .i64 ((xs[i]).2.2:Int)):=by
 induction xs with
 | nil=>intro i hi;simp at hi
 | cons p r ih =>
  intro i hi
  rw [List.flatMap_cons]
  cases i with
  | zero=>simp [enc]
  | succ i =>
   have:=ih i (by simpa using hi)
   rw [List.getElem?_append_right (by simp [enc];omega),List.getElem?_append_right (by simp [enc];omega),List.getElem?_append_right (by simp [enc];omega)]
   rw [show (i+1)*3 - (enc p).length=i*3 by simp [enc];omega,show (i+1)*3+1 - (enc p).length=i*3+1 by simp [enc];omega,show (i+1)*3+2 - (enc p).length=i*3+2 by simp [enc];omega]
   simpa using this
theorem row_cr {w:World} {base:Nat} {e:TypeId} {v:Value} {xs:List (Nat × Nat × Nat)} (h:w.ownsRow base e 3 v xs.length (xs.flatMap enc)):∃ a cap g,v=.slice a xs.length cap∧Cr g 0 xs w∧(0<xs.length→a=some ⟨g,0,none⟩)∧(0<xs.length→g<w.heap.size):=by
 rcases h.2 with ⟨rfl,hn⟩ | ⟨g,cap,cur,hv,_,hh,_,_,_,ht⟩
 ·exact ⟨none,0,0,by rw [hn],⟨fun i hi=>by omega⟩,fun h=>by omega,fun h=>by omega⟩
 ·refine ⟨some ⟨g,0,none⟩,cap,g,hv,⟨fun i hi=>?_⟩,fun _=>rfl,fun _=>(Array.getElem?_eq_some_iff.1 hh).1⟩
  have hp:=enc_at xs i hi
  have k:∀ j u,j<xs.length*3→(xs.flatMap enc)[j]?=some u→w.cell? ⟨g,j,none⟩=some u:=fun j u hj hu=>by
   rw [← ht,List.getElem?_take_of_lt hj] at hu
   have h3:cur[j]?=some u:=by simpa using hu
   simp [World.cell?,hh,h3]
  rw [Nat.zero_add]
  exact ⟨k _ _ (by omega) hp.1,k _ _ (by omega) hp.2.1,k _ _ (by omega) hp.2.2⟩
theorem sencR_at (qs:List Sq):∀ (i:Nat) (hi:i<qs.length) (j:Nat),j<5→(qs.flatMap sencR)[i*5+j]?=(sencR (qs[i]))[j]?:=by
 induction qs with
 | nil=>intro i hi;simp at hi
 | cons p r ih =>
  intro i hi j hj
  rw [List.flatMap_cons]
  cases i with
  | zero=>rw [List.getElem?_append_left (by simp [sencR];omega)];simp
  | succ i =>
   have:=ih i (by simpa using hi) j hj
   rw [List.getElem?_append_right (by simp [sencR];omega),show (i+1)*5+j - (sencR p).length=i*5+j by simp [sencR];omega]
   simpa using this
theorem sencR_len:∀ qs:List Sq,(qs.flatMap sencR).length=qs.length*5
 | []=>rfl
 | p :: r=>by rw [List.flatMap_cons,List.length_append,sencR_len r];simp [sencR];omega
theorem Stq.at {w:World} {base b2:Nat} {v:Value} {n:Nat} {xs:List Value} {Ls:List Sp} (h:w.ownsRow base 207 5 v n xs) (hQ:Stq b2 Ls xs w):n=Ls.length∧∃ a cap g,v=.slice a Ls.length cap∧(0<Ls.length→a=some ⟨g,0,none⟩∧g<w.heap.size) ∧
  ∀ k (hk:k<Ls.length),∃ v1 v2 x z,w.cell? ⟨g,k*5,none⟩=some (.string (Pl.stp (Ls[k]).nm))∧w.cell? ⟨g,k*5+1,none⟩=some v1∧w.cell? ⟨g,k*5+2,none⟩=some v2∧w.cell? ⟨g,k*5+3,none⟩=some (.int .i64 x)∧w.cell? ⟨g,k*5+4,none⟩=some (.int .i64 z)∧StR b2 (Ls[k]) v1 v2 x z w:=by
 obtain ⟨qs,rfl,rfl,h3⟩:=hQ.ex
 have hn:n=qs.length:=by have:=h.1;rw [sencR_len] at this;omega
 subst hn
 refine ⟨by simp,?_⟩
 rcases h.2 with ⟨rfl,hn⟩ | ⟨g,cap,cur,hv,_,hh,_,_,_,ht⟩
 ·refine ⟨none,0,0,by simp [hn],fun h=>by simp at h;omega,fun k hk=>by simp at hk;omega⟩
 ·refine ⟨some ⟨g,0,none⟩,cap,g,by rw [hv];simp,fun _=>⟨rfl,(Array.getElem?_eq_some_iff.1 hh).1⟩,fun k hk=>?_⟩
  have hk':k<qs.length:=by simpa using hk
  have c:∀ j,j<5→w.cell? ⟨g,k*5+j,none⟩=(sencR (qs[k]))[j]?:=fun j hj=>by
   have hu:=sencR_at qs k hk' j hj
   rw [← ht,List.getElem?_take_of_lt (by omega)] at hu
   have h3:cur[k*5+j]?=(sencR (qs[k]))[j]?:=by simpa using hu
   simp [World.cell?,hh,h3]
  have e:(qs.map (·.1))[k]=(qs[k]).1:=by simp
  refine ⟨(qs[k]).2.1,(qs[k]).2.2.1,(qs[k]).2.2.2.1,(qs[k]).2.2.2.2,?_,?_,?_,?_,?_,?_⟩
  ·have:=c 0 (by omega);rw [e];simpa [sencR] using this
  ·rw [c 1 (by omega)];simp [sencR]
  ·rw [c 2 (by omega)];simp [sencR]
  ·rw [c 3 (by omega)];simp [sencR]
  ·rw [c 4 (by omega)];simp [sencR]
  ·rw [e];exact h3 _ (List.getElem_mem hk')
end Go.Proofs.YtcmgclckknpecaaGreatDoor
namespace Go.Proofs.YtcmgclckknpecaaGreatDoor
open Go.RowKit
theorem gon_no (c:Nat) (h:Pl.isLet c=true∨Pl.isDig c=true∨Pl.isMrk c=true):¬ (c=39∨c=8217)∧¬ (c=46∨c=44):=by
 constructor <;> (rintro (rfl | rfl) <;> revert h <;> decide)
set_option maxRecDepth 100000 in
set_option maxHeartbeats 2000000 in
theorem rgoes_any (g cap:Nat) (xs:List (Nat × Nat × Nat)) (k:Nat) (w:World) (hC:Cr g 0 xs w) (hk1:1≤k) (hk:k<xs.length) (hl:xs.length≤268435456) :
  Calls Tryz.prog 227 #[.slice (some ⟨g,0,none⟩) xs.length cap,.int .i64 (k:Int)] w fun e w'=>e=.returned (.bool (Pl.gon (Pl.cdx xs) xs.length k))∧w'=w:=by
 have c0:=hC.code hk
 have cm:=hC.code (k:=k - 1) (by omega)
 rw [Nat.zero_add] at c0 cm
 have hkI:(k:Int)<(xs.length:Int):=by omega
 have hk0:¬ (k:Int)=0:=by omega
 have hm1:(k:Int) - 1=((k - 1:Nat):Int):=by omega
 obtain ⟨c,hc⟩:∃ c,Pl.cdx xs k=c:=⟨_,rfl⟩
 obtain ⟨A,hA⟩:∃ A,Pl.cdx xs (k - 1)=A:=⟨_,rfl⟩
 have HG:Hid (Pl.gon (Pl.cdx xs) xs.length k=if c=39∨c=8217 then Pl.isLet A && decide (k+1<xs.length) && Pl.isLet (Pl.cdx xs (k+1)) else if c=46∨c=44 then Pl.isDig A && decide (k+1<xs.length) && Pl.isDig (Pl.cdx xs (k+1)) else Pl.isLet c || Pl.isDig c || Pl.isMrk c):=by
  show _=_;unfold Pl.gon;rw [hc,hA]
 rw [hc] at c0
 rw [hA] at cm
 clear hc hA
 by_cases hn:k+1<xs.length
 ·have hnI:¬ (xs.length:Int)≤(k:Int)+1:=by omega
  have hnJ:(k:Int)+1<(xs.length:Int):=by omega
  have cp:=hC.code hn
  rw [Nat.zero_add] at cp
  obtain ⟨B,hB⟩:∃ B,Pl.cdx xs (k+1)=B:=⟨_,rfl⟩
  rw [hB] at cp
  have HG2:Hid (Pl.gon (Pl.cdx xs) xs.length k=if c=39∨c=8217 then Pl.isLet A && Pl.isLet B else if c=46∨c=44 then Pl.isDig A && Pl.isDig B else Pl.isLet c || Pl.isDig c || Pl.isMrk c):=by
   have:=HG.out;rw [hB] at this;simp only [decide_eq_true hn,Bool.and_true] at this;exact this
  clear HG hB
  have HL:Hid (∀ d:Nat,Pl.isLet d=true ↔ ((65≤d∧d≤90)∨(97≤d∧d≤122)∨(192≤d∧d≤255∧d≠215∧d≠247)∨(913≤d∧d≤969∧d≠930)∨(1040≤d∧d≤1103))):=isLet_iff
  go_enter Tryz.func227,Tryz.ntmps227
  go_wp2_with (first | (go_at_call 225;refine (rlet_any _ _).mono ?_;rintro e w' ⟨rfl,rfl⟩) | (go_at_call 226;refine (rdig_any _ _).mono ?_;rintro e w' ⟨rfl,rfl⟩) | (go_at_call 224;refine (rmrk_any _ _).mono ?_;rintro e w' ⟨rfl,rfl⟩))
  all_goals go_ret
  all_goals refine ⟨ret_bool ?_,rfl⟩
  all_goals rw [HG2.out]
  all_goals try simp only [beq_iff_eq,beq_eq_false_iff_ne,ne_eq] at *
  all_goals first
   | (have hX:=gon_no c (by first | exact .inl ‹_› | exact .inr (.inl ‹_›) | exact .inr (.inr ‹_›));rw [if_neg hX.1,if_neg hX.2];simp_all;done)
   | (rw [if_pos (by omega)];simp_all;done)
   | (rw [if_neg (by omega),if_pos (by omega)];simp_all;done)
   | (rw [if_neg (by omega),if_neg (by omega)];simp_all;done)
   | (exfalso;omega)
   | (split <;> first | rfl | (split <;> first | rfl | (simp_all;done)))
 ·have hnI:(xs.length:Int)≤(k:Int)+1:=by omega
  have HG2:Hid (Pl.gon (Pl.cdx xs) xs.length k=if c=39∨c=8217 then false else if c=46∨c=44 then false else Pl.isLet c || Pl.isDig c || Pl.isMrk c):=by
   have:=HG.out;simp only [decide_eq_false hn,Bool.and_false,Bool.false_and] at this;exact this
  clear HG
  go_enter Tryz.func227,Tryz.ntmps227
  go_wp2_with (first | (go_at_call 225;refine (rlet_any _ _).mono ?_;rintro e w' ⟨rfl,rfl⟩) | (go_at_call 226;refine (rdig_any _ _).mono ?_;rintro e w' ⟨rfl,rfl⟩) | (go_at_call 224;refine (rmrk_any _ _).mono ?_;rintro e w' ⟨rfl,rfl⟩))
  all_goals go_ret
  all_goals refine ⟨ret_bool ?_,rfl⟩
  all_goals rw [HG2.out]
  all_goals try simp only [beq_iff_eq,beq_eq_false_iff_ne,ne_eq] at *
  all_goals first
   | (have hX:=gon_no c (by first | exact .inl ‹_› | exact .inr (.inl ‹_›) | exact .inr (.inr ‹_›));rw [if_neg hX.1,if_neg hX.2];simp_all;done)
   | (rw [if_pos (by omega)];simp_all;done)
   | (rw [if_neg (by omega),if_pos (by omega)];simp_all;done)
   | (rw [if_neg (by omega),if_neg (by omega)];simp_all;done)
   | (exfalso;omega)
   | (split <;> first | rfl | (split <;> first | rfl | (simp_all;done)))
end Go.Proofs.YtcmgclckknpecaaGreatDoor
namespace Go.Proofs.YtcmgclckknpecaaGreatDoor
open Go.RowKit
set_option maxRecDepth 100000 in
set_option maxHeartbeats 2000000 in
theorem rend_whole (g cap:Nat) (xs:List (Nat × Nat × Nat)) (i:Nat) (w:World) (hi:i<xs.length) :
  Calls Tryz.prog 138 #[.string ⟨#[119,104,111,108,101]⟩,.slice (some ⟨g,0,none⟩) xs.length cap,.int .i64 (i:Int)] w fun e w'=>e=.returned (.int .i64 ((i+Pl.czf 5 xs i:Nat):Int))∧w'=w:=by
 have HE:Hid (i+Pl.czf 5 xs i=xs.length):=by show _=_;unfold Pl.czf Pl.lsz;simp;omega
 rw [HE.out]
 go_enter Tryz.func138,Tryz.ntmps138
 go_wp2_with fail
 go_ret
 exact ⟨rfl,rfl⟩
set_option maxRecDepth 100000 in
set_option maxHeartbeats 2000000 in
theorem rend_blanks (g cap:Nat) (xs:List (Nat × Nat × Nat)) (i:Nat) (w:World) (hC:Cr g 0 xs w) (hi:i<xs.length) (hl:xs.length≤268435456) :
  Calls Tryz.prog 138 #[.string ⟨#[98,108,97,110,107,115]⟩,.slice (some ⟨g,0,none⟩) xs.length cap,.int .i64 (i:Int)] w fun e w'=>e=.returned (.int .i64 ((i+Pl.czf 4 xs i:Nat):Int))∧w'=w:=by
 obtain ⟨R,hR⟩:∃ R,Pl.run (fun k=>!Pl.isBlk (Pl.cdx xs k)) xs.length xs.length i=R:=⟨_,rfl⟩
 have HE:Hid (i+Pl.czf 4 xs i=R):=by
  show _=_
  have:=Pl.run_ge (fun k=>!Pl.isBlk (Pl.cdx xs k)) xs.length xs.length i
  unfold Pl.czf Pl.ssz;simp [hR] at this ⊢;omega
 rw [HE.out]
 have HR:Hid (Pl.run (fun k=>!Pl.isBlk (Pl.cdx xs k)) xs.length xs.length i=R):=hR
 clear hR
 go_enter Tryz.func138,Tryz.ntmps138
 go_wp2_with fail
 go_loopw [7] (fun kv wr=>wr=w∧∃ (q m:Nat),kv=.int .i64 (q:Int)∧i≤q∧q≤xs.length∧xs.length≤q+m∧Hid (Pl.run (fun k=>!Pl.isBlk (Pl.cdx xs k)) xs.length m q=R)) (fun kv _=>xs.length - (intOf kv).toNat)
 case atStart=>exact ⟨rfl,i,xs.length,by go_num,by omega,by omega,by omega,HR⟩
 case round =>
  obtain ⟨rfl,q,m,rfl,hq1,hq2,hqm,HK⟩:=hrel
  by_cases hq:q<xs.length
  ·have hqI:(q:Int)<(xs.length:Int):=by omega
   have c1:=hC.code hq
   rw [Nat.zero_add] at c1
   obtain ⟨d,hd⟩:∃ d,Pl.cdx xs q=d:=⟨_,rfl⟩
   rw [hd] at c1
   obtain ⟨b,hb⟩:∃ b,(fun k=>!Pl.isBlk (Pl.cdx xs k)) q=b:=⟨_,rfl⟩
   simp only [hd] at hb;have HB:Hid (∀ w,Calls Tryz.prog 222 #[.int .i64 (d:Int)] w fun e w'=>e=.returned (.bool (!b))∧w'=w):=fun w=>by rw [← hb,Bool.not_not];exact rblk_any d w
   cases b with
   | true =>
    obtain ⟨m',hm',hr'⟩:=Pl.run_yes hq (by simp only [hd];exact hb) hqm HK.out
    have HK2:Hid (Pl.run (fun k=>!Pl.isBlk (Pl.cdx xs k)) xs.length m' (q+1)=R):=hr'
    clear hr' HK hb hd
    go_wp2_with (go_at_call 222;refine (HB.out _).mono ?_;rintro e w' ⟨rfl,hw⟩;rw [hw];clear hw w')
    exact ⟨⟨by trivial,q+1,m',by go_num,by omega,by omega,by omega,HK2⟩,by simp [intOf];omega⟩
   | false =>
    have hx:=Pl.run_no (fun h=>by have h2:=h.2;simp only [hd] at h2;rw [hb] at h2;exact absurd h2 (by simp)) HK.out
    clear HK hb hd
    go_wp2_with (go_at_call 222;refine (HB.out _).mono ?_;rintro e w' ⟨rfl,hw⟩;rw [hw];clear hw w')
    go_ret
    subst hx;exact ⟨rfl,rfl⟩
  ·have hqI:¬ (q:Int)<(xs.length:Int):=by omega
   have hx:=Pl.run_no (fun h=>hq h.1) HK.out
   clear HK
   go_wp2_with fail
   go_ret
   subst hx;exact ⟨rfl,rfl⟩
set_option maxRecDepth 100000 in
set_option maxHeartbeats 2000000 in
theorem rend_words (g cap:Nat) (xs:List (Nat × Nat × Nat)) (i:Nat) (w:World) (hC:Cr g 0 xs w) (hi:i<xs.length) (hl:xs.length≤268435456) :
  Calls Tryz.prog 138 #[.string ⟨#[119,111,114,100,115]⟩,.slice (some ⟨g,0,none⟩) xs.length cap,.int .i64 (i:Int)] w fun e w'=>e=.returned (.int .i64 ((i+Pl.czf 3 xs i:Nat):Int))∧w'=w:=by
 have hiI:(i:Int)<(xs.length:Int):=by omega
 have c0:=hC.code hi
 rw [Nat.zero_add] at c0
 have hZ:Pl.czf 3 xs i=Pl.wsz (Pl.cdx xs) xs.length i:=by unfold Pl.czf;simp
 unfold Pl.wsz at hZ
 obtain ⟨c,hc⟩:∃ c,Pl.cdx xs i=c:=⟨_,rfl⟩
 rw [hc] at c0 hZ
 obtain ⟨sg,hsg⟩:∃ b,Pl.isSgn c=b:=⟨_,rfl⟩
 have HS:Hid (∀ w,Calls Tryz.prog 223 #[.int .i64 (c:Int)] w fun e w'=>e=.returned (.bool sg)∧w'=w):=fun w=>by rw [← hsg];exact rsgn_any c w
 cases sg with
 | true =>
  rw [hsg,if_pos rfl] at hZ
  obtain ⟨R,hR⟩:∃ R,Pl.run (fun k=>Pl.isMrk (Pl.cdx xs k)) xs.length xs.length (i+1)=R:=⟨_,rfl⟩
  have HE:Hid (i+Pl.czf 3 xs i=R):=by
   show _=_
   have:=Pl.run_ge (fun k=>Pl.isMrk (Pl.cdx xs k)) xs.length xs.length (i+1)
   rw [hR] at this hZ;omega
  rw [HE.out]
  have HR:Hid (Pl.run (fun k=>Pl.isMrk (Pl.cdx xs k)) xs.length xs.length (i+1)=R):=hR
  clear hR hZ hsg hc
  go_enter Tryz.func138,Tryz.ntmps138
  go_wp2_with (go_at_call 223;refine (HS.out _).mono ?_;rintro e w' ⟨rfl,hw⟩;rw [hw];clear hw w')
  go_loopw [7] (fun kv wr=>wr=w∧∃ (q m:Nat),kv=.int .i64 (q:Int)∧i+1≤q∧q≤xs.length∧xs.length≤q+m∧Hid (Pl.run (fun k=>Pl.isMrk (Pl.cdx xs k)) xs.length m q=R)) (fun kv _=>xs.length - (intOf kv).toNat)
  case atStart=>exact ⟨rfl,i+1,xs.length,by go_num,by omega,by omega,by omega,HR⟩
  case round =>
   obtain ⟨rfl,q,m,rfl,hq1,hq2,hqm,HK⟩:=hrel
   by_cases hq:q<xs.length
   ·have hqI:(q:Int)<(xs.length:Int):=by omega
    have c1:=hC.code hq
    rw [Nat.zero_add] at c1
    obtain ⟨d,hd⟩:∃ d,Pl.cdx xs q=d:=⟨_,rfl⟩
    rw [hd] at c1
    obtain ⟨b,hb⟩:∃ b,(fun k=>Pl.isMrk (Pl.cdx xs k)) q=b:=⟨_,rfl⟩
    simp only [hd] at hb;have HB:Hid (∀ w,Calls Tryz.prog 224 #[.int .i64 (d:Int)] w fun e w'=>e=.returned (.bool b)∧w'=w):=fun w=>by rw [← hb];exact rmrk_any d w
    cases b with
    | true =>
     obtain ⟨m',hm',hr'⟩:=Pl.run_yes hq (by simp only [hd];exact hb) hqm HK.out
     have HK2:Hid (Pl.run (fun k=>Pl.isMrk (Pl.cdx xs k)) xs.length m' (q+1)=R):=hr'
     clear hr' HK hb hd
     go_wp2_with (go_at_call 224;refine (HB.out _).mono ?_;rintro e w' ⟨rfl,hw⟩;rw [hw];clear hw w')
     exact ⟨⟨by trivial,q+1,m',by go_num,by omega,by omega,by omega,HK2⟩,by simp [intOf];omega⟩
    | false =>
     have hx:=Pl.run_no (fun h=>by have h2:=h.2;simp only [hd] at h2;rw [hb] at h2;exact absurd h2 (by simp)) HK.out
     clear HK hb hd
     go_wp2_with (go_at_call 224;refine (HB.out _).mono ?_;rintro e w' ⟨rfl,hw⟩;rw [hw];clear hw w')
     go_ret
     subst hx;exact ⟨rfl,rfl⟩
   ·have hqI:¬ (q:Int)<(xs.length:Int):=by omega
    have hx:=Pl.run_no (fun h=>hq h.1) HK.out
    clear HK
    go_wp2_with fail
    go_ret
    subst hx;exact ⟨rfl,rfl⟩
 | false =>
  rw [hsg,if_neg (by simp)] at hZ
  obtain ⟨le,hle⟩:∃ b,Pl.isLet c=b:=⟨_,rfl⟩
  obtain ⟨di,hdi⟩:∃ b,Pl.isDig c=b:=⟨_,rfl⟩
  have HL:Hid (∀ w,Calls Tryz.prog 225 #[.int .i64 (c:Int)] w fun e w'=>e=.returned (.bool le)∧w'=w):=fun w=>by rw [← hle];exact rlet_any c w
  have HD:Hid (∀ w,Calls Tryz.prog 226 #[.int .i64 (c:Int)] w fun e w'=>e=.returned (.bool di)∧w'=w):=fun w=>by rw [← hdi];exact rdig_any c w
  rw [hle,hdi] at hZ
  clear hle hdi hsg hc
  by_cases hld:(le || di)=true
  ·rw [if_pos hld] at hZ
   obtain ⟨R,hR⟩:∃ R,Pl.run (Pl.gon (Pl.cdx xs) xs.length) xs.length xs.length (i+1)=R:=⟨_,rfl⟩
   have HE:Hid (i+Pl.czf 3 xs i=R):=by
    show _=_
    have:=Pl.run_ge (Pl.gon (Pl.cdx xs) xs.length) xs.length xs.length (i+1)
    rw [hR] at this hZ;omega
   rw [HE.out]
   have HR:Hid (Pl.run (Pl.gon (Pl.cdx xs) xs.length) xs.length xs.length (i+1)=R):=hR
   clear hR hZ
   have hcase:le=true∨(le=false∧di=true):=by cases le <;> simp_all
   clear hld
   rcases hcase with rfl | ⟨rfl,rfl⟩
   ·go_enter Tryz.func138,Tryz.ntmps138
    go_wp2_with (first | (go_at_call 223;refine (HS.out _).mono ?_;rintro e w' ⟨rfl,hw⟩;rw [hw];clear hw w') | (go_at_call 225;refine (HL.out _).mono ?_;rintro e w' ⟨rfl,hw⟩;rw [hw];clear hw w') | (go_at_call 226;refine (HD.out _).mono ?_;rintro e w' ⟨rfl,hw⟩;rw [hw];clear hw w'))
    go_loopw [7] (fun kv wr=>wr=w∧∃ (q m:Nat),kv=.int .i64 (q:Int)∧i+1≤q∧q≤xs.length∧xs.length≤q+m∧Hid (Pl.run (Pl.gon (Pl.cdx xs) xs.length) xs.length m q=R)) (fun kv _=>xs.length - (intOf kv).toNat)
    case atStart=>exact ⟨rfl,i+1,xs.length,by go_num,by omega,by omega,by omega,HR⟩
    case round =>
     obtain ⟨rfl,q,m,rfl,hq1,hq2,hqm,HK⟩:=hrel
     by_cases hq:q<xs.length
     ·have hqI:(q:Int)<(xs.length:Int):=by omega
      have c1:=hC.code hq
      rw [Nat.zero_add] at c1
      obtain ⟨d,hd⟩:∃ d,Pl.cdx xs q=d:=⟨_,rfl⟩
      rw [hd] at c1
      obtain ⟨b,hb⟩:∃ b,(Pl.gon (Pl.cdx xs) xs.length) q=b:=⟨_,rfl⟩
      have HB:Hid (∀ w,Cr g 0 xs w→Calls Tryz.prog 227 #[.slice (some ⟨g,0,none⟩) xs.length cap,.int .i64 (q:Int)] w fun e w'=>e=.returned (.bool b)∧w'=w):=fun w hC=>by rw [← hb];exact rgoes_any g cap xs q w hC (by omega) hq hl
      cases b with
      | true =>
       obtain ⟨m',hm',hr'⟩:=Pl.run_yes hq hb hqm HK.out
       have HK2:Hid (Pl.run (Pl.gon (Pl.cdx xs) xs.length) xs.length m' (q+1)=R):=hr'
       clear hr' HK hb hd
       go_wp2_with (go_at_call 227;refine (HB.out _ hC).mono ?_;rintro e w' ⟨rfl,hw⟩;rw [hw];clear hw w')
       exact ⟨⟨by trivial,q+1,m',by go_num,by omega,by omega,by omega,HK2⟩,by simp [intOf];omega⟩
      | false =>
       have hx:=Pl.run_no (fun h=>by rw [hb] at h;exact absurd h.2 (by simp)) HK.out
       clear HK hb hd
       go_wp2_with (go_at_call 227;refine (HB.out _ hC).mono ?_;rintro e w' ⟨rfl,hw⟩;rw [hw];clear hw w')
       go_ret
       subst hx;exact ⟨rfl,rfl⟩
     ·have hqI:¬ (q:Int)<(xs.length:Int):=by omega
      have hx:=Pl.run_no (fun h=>hq h.1) HK.out
      clear HK
      go_wp2_with fail
      go_ret
      subst hx;exact ⟨rfl,rfl⟩
   ·go_enter Tryz.func138,Tryz.ntmps138
    go_wp2_with (first | (go_at_call 223;refine (HS.out _).mono ?_;rintro e w' ⟨rfl,hw⟩;rw [hw];clear hw w') | (go_at_call 225;refine (HL.out _).mono ?_;rintro e w' ⟨rfl,hw⟩;rw [hw];clear hw w') | (go_at_call 226;refine (HD.out _).mono ?_;rintro e w' ⟨rfl,hw⟩;rw [hw];clear hw w'))
    go_loopw [7] (fun kv wr=>wr=w∧∃ (q m:Nat),kv=.int .i64 (q:Int)∧i+1≤q∧q≤xs.length∧xs.length≤q+m∧Hid (Pl.run (Pl.gon (Pl.cdx xs) xs.length) xs.length m q=R)) (fun kv _=>xs.length - (intOf kv).toNat)
    case atStart=>exact ⟨rfl,i+1,xs.length,by go_num,by omega,by omega,by omega,HR⟩
    case round =>
     obtain ⟨rfl,q,m,rfl,hq1,hq2,hqm,HK⟩:=hrel
     by_cases hq:q<xs.length
     ·have hqI:(q:Int)<(xs.length:Int):=by omega
      have c1:=hC.code hq
      rw [Nat.zero_add] at c1
      obtain ⟨d,hd⟩:∃ d,Pl.cdx xs q=d:=⟨_,rfl⟩
      rw [hd] at c1
      obtain ⟨b,hb⟩:∃ b,(Pl.gon (Pl.cdx xs) xs.length) q=b:=⟨_,rfl⟩
      have HB:Hid (∀ w,Cr g 0 xs w→Calls Tryz.prog 227 #[.slice (some ⟨g,0,none⟩) xs.length cap,.int .i64 (q:Int)] w fun e w'=>e=.returned (.bool b)∧w'=w):=fun w hC=>by rw [← hb];exact rgoes_any g cap xs q w hC (by omega) hq hl
      cases b with
      | true =>
       obtain ⟨m',hm',hr'⟩:=Pl.run_yes hq hb hqm HK.out
       have HK2:Hid (Pl.run (Pl.gon (Pl.cdx xs) xs.length) xs.length m' (q+1)=R):=hr'
       clear hr' HK hb hd
       go_wp2_with (go_at_call 227;refine (HB.out _ hC).mono ?_;rintro e w' ⟨rfl,hw⟩;rw [hw];clear hw w')
       exact ⟨⟨by trivial,q+1,m',by go_num,by omega,by omega,by omega,HK2⟩,by simp [intOf];omega⟩
      | false =>
       have hx:=Pl.run_no (fun h=>by rw [hb] at h;exact absurd h.2 (by simp)) HK.out
       clear HK hb hd
       go_wp2_with (go_at_call 227;refine (HB.out _ hC).mono ?_;rintro e w' ⟨rfl,hw⟩;rw [hw];clear hw w')
       go_ret
       subst hx;exact ⟨rfl,rfl⟩
     ·have hqI:¬ (q:Int)<(xs.length:Int):=by omega
      have hx:=Pl.run_no (fun h=>hq h.1) HK.out
      clear HK
      go_wp2_with fail
      go_ret
      subst hx;exact ⟨rfl,rfl⟩
  ·rw [if_neg hld] at hZ
   have HE:Hid (i+Pl.czf 3 xs i=i):=by show _=_;rw [hZ];rfl
   rw [HE.out]
   obtain ⟨rfl,rfl⟩:le=false∧di=false:=by cases le <;> cases di <;> simp_all
   clear hld hZ
   go_enter Tryz.func138,Tryz.ntmps138
   go_wp2_with (first | (go_at_call 223;refine (HS.out _).mono ?_;rintro e w' ⟨rfl,hw⟩;rw [hw];clear hw w') | (go_at_call 225;refine (HL.out _).mono ?_;rintro e w' ⟨rfl,hw⟩;rw [hw];clear hw w') | (go_at_call 226;refine (HD.out _).mono ?_;rintro e w' ⟨rfl,hw⟩;rw [hw];clear hw w'))
   go_ret
   exact ⟨rfl,rfl⟩
end Go.Proofs.YtcmgclckknpecaaGreatDoor
namespace Go.Proofs.YtcmgclckknpecaaGreatDoor
open Go.RowKit
theorem rend_any (g cap:Nat) (xs:List (Nat × Nat × Nat)) (j:Nat) (nm:ByteArray) (hnm:(j=3∧nm=⟨#[119,111,114,100,115]⟩)∨(j=4∧nm=⟨#[98,108,97,110,107,115]⟩)∨(j=5∧nm=⟨#[119,104,111,108,101]⟩)) (i:Nat) (w:World) (hC:Cr g 0 xs w) (hi:i<xs.length) (hl:xs.length≤268435456) :
  Calls Tryz.prog 138 #[.string nm,.slice (some ⟨g,0,none⟩) xs.length cap,.int .i64 (i:Int)] w fun e w'=>e=.returned (.int .i64 ((i+Pl.czf j xs i:Nat):Int))∧w'=w:=by
 rcases hnm with ⟨rfl,rfl⟩ | ⟨rfl,rfl⟩ | ⟨rfl,rfl⟩
 ·exact rend_words g cap xs i w hC hi hl
 ·exact rend_blanks g cap xs i w hC hi hl
 ·exact rend_whole g cap xs i w hi
set_option maxRecDepth 100000 in
set_option maxHeartbeats 4000000 in
theorem rcut_any (g cap:Nat) (xs:List (Nat × Nat × Nat)) (a:Option Addr) (j:Nat) (nm:ByteArray) (hnm:(j=3∧nm=⟨#[119,111,114,100,115]⟩)∨(j=4∧nm=⟨#[98,108,97,110,107,115]⟩)∨(j=5∧nm=⟨#[119,104,111,108,101]⟩)) (w:World) (hC:Cr g 0 xs w) (ha:0<xs.length→a=some ⟨g,0,none⟩) (hg:0<xs.length→g<w.heap.size) (hl:xs.length≤268435456) :
  Calls Tryz.prog 79 #[.string nm,.slice a xs.length cap] w fun e w'=>∃ v,e=.returned v∧Tkr w.heap.size v (Pl.toksC xs 0 (Pl.pcs j xs)) w'∧Below w.heap.size w w':=by
 obtain ⟨i0,hi,hz0,hz1,hz2⟩:=info_parts info128
 have HEN:Hid (∀ (q:Nat) (w:World),Cr g 0 xs w→q<xs.length→Calls Tryz.prog 138 #[.string nm,.slice (some ⟨g,0,none⟩) xs.length cap,.int .i64 (q:Int)] w fun e w'=>e=.returned (.int .i64 ((q+Pl.czf j xs q:Nat):Int))∧w'=w):=fun q w hC hq=>rend_any g cap xs j nm hnm q w hC hq hl
 clear hnm
 obtain ⟨ys,hys⟩:∃ ys,Pl.toksC xs 0 (Pl.pcs j xs)=ys:=⟨_,rfl⟩
 rw [hys]
 have hcz:∀ q,q<xs.length→q+Pl.czf j xs q≤xs.length:=fun q h=>Pl.czf_le j xs q h
 have HYS:Hid (([]:List Pl.Tc)++Pl.toksC xs 0 (Pl.cutS xs.length (Pl.czf j xs) hcz xs.length 0)=ys):=hys
 clear hys
 go_enter Tryz.func79,Tryz.ntmps79
 go_wp2
 go_loopw [5,6] (fun ov iv wr=>∃ (q m:Nat) (pre:List Pl.Tc),iv=.int .i64 (q:Int)∧q≤xs.length∧xs.length≤q+m∧pre.length≤q∧Hid (pre++Pl.toksC xs pre.length (Pl.cutS xs.length (Pl.czf j xs) hcz m q)=ys)∧Tkr w.heap.size ov pre wr∧Below w.heap.size w wr) (fun _ iv _=>xs.length - (intOf iv).toNat)
 case atStart=>exact ⟨0,xs.length,[],rfl,by omega,by omega,by simp,HYS,Tkr.nil _ _,Below.refl _ _⟩
 case round =>
  obtain ⟨q,m,pre,rfl,hq,hqm,hpq,HX,hT,hB⟩:=hrel
  by_cases hlt:q<xs.length
  ·obtain rfl:=ha (by omega)
   have hg':=hg (by omega)
   have hs1:=hB.size
   have hltI:(q:Int)<(xs.length:Int):=by omega
   obtain ⟨z,hz⟩:∃ z,Pl.czf j xs q=z:=⟨_,rfl⟩
   have hzl:=hcz q hlt
   rw [hz] at hzl
   have hCw:=hC.below hB fun _=>hg'
   have hen:=HEN.out q wr hCw hlt
   rw [hz] at hen
   have HE1:Hid (Calls Tryz.prog 138 #[.string nm,.slice (some ⟨g,0,none⟩) xs.length cap,.int .i64 (q:Int)] wr fun e w'=>e=.returned (.int .i64 ((q+z:Nat):Int))∧w'=wr):=hen
   clear hen
   by_cases hz0':z=0
   ·obtain ⟨m',hm',hcs⟩:=Pl.cutS_pass (hz:=hcz) hlt hqm (hz.trans hz0')
    have HX2:Hid (pre++Pl.toksC xs pre.length (Pl.cutS xs.length (Pl.czf j xs) hcz m' (q+1))=ys):=by have:=HX.out;rw [hcs] at this;exact this
    subst hz0'
    have heq:((q+0:Nat):Int)=(q:Int):=by simp
    rw [heq] at HE1
    clear hcs HX hz heq
    go_wp2_with (go_at_call 138;refine (HE1.out).mono ?_;rintro e w' ⟨rfl,hw⟩;rw [hw];clear hw w')
    exact ⟨⟨q+1,m',pre,by go_num,by omega,hm',by omega,HX2,hT,hB⟩,by simp [intOf];omega⟩
   ·obtain ⟨m',x,hx,hm',hcs⟩:=Pl.cutS_cons (hz:=hcz) hlt hqm (by rw [hz];exact hz0')
    rw [hz] at hx hm' hcs
    have hXo:=HX.out
    rw [hcs,Pl.toksC,hx] at hXo
    have hne:¬ ((q+z:Nat):Int)=(q:Int):=by omega
    obtain ⟨us,hus,hrow,hco⟩:=hT.r
    subst hus
    rw [List.length_map] at hpq hXo
    have hto:=rtoken_any g cap xs q (q+z) us.length wr hCw (by omega) (by omega) hzl hl
    unfold Pl.tokC at hXo
    rw [show q+z - q=z by omega] at hto
    simp only at hXo
    obtain ⟨F,hF⟩:∃ F,Pl.frx xs q=F:=⟨_,rfl⟩
    obtain ⟨T,hTT⟩:∃ T,Pl.tox xs (q+z - 1)=T:=⟨_,rfl⟩
    obtain ⟨cs,hcc⟩:∃ cs,(Pl.sub xs q z).map (·.1)=cs:=⟨_,rfl⟩
    rw [hF,hTT,hcc] at hto hXo
    have HTO:Hid (Calls Tryz.prog 139 #[.slice (some ⟨g,0,none⟩) xs.length cap,.int .i64 (q:Int),.int .i64 ((q+z:Nat):Int),.int .i64 (us.length:Int)] wr fun e w'=>∃ sv,e=.returned (.agg #[sv,.int .i64 (us.length:Int),.int .i64 (F:Int),.int .i64 (T:Int)])∧CoR w' sv cs∧Below wr.heap.size wr w'):=hto
    have HX2:Hid ((us.map (·.2)++[(cs,us.length,F,T)])++Pl.toksC xs (us.length+1) (Pl.cutS xs.length (Pl.czf j xs) hcz m' (q+z))=ys):=by show _=_;rw [← hXo];simp
    clear hto hcs HX hXo hF hTT hcc hx hz HEN
    obtain ⟨va,vc,hv⟩:=hT.len
    rw [List.length_map] at hv
    subst hv
    go_wp2_with (go_at_call 138;refine (HE1.out).mono ?_;rintro e w' ⟨rfl,hw⟩;rw [hw];clear hw w')
    refine (HTO.out).mono ?_
    rintro e w2 ⟨sv,rfl,hcr,h2⟩
    obtain ⟨sa,sc,sg,rfl,_⟩:=hcr.co
    obtain ⟨sn,hsn⟩:∃ n,cs.length=n:=⟨_,rfl⟩
    rw [hsn] at hcr ⊢
    have hB2:Below w.heap.size w w2:=hB.trans (h2.mono hs1)
    have hs2:=h2.size
    have hrow2:=ownsRow_below hrow h2
    have HNB:Hid (∀ C,((w2.alloc C).alloc (.cells #[.slice sa sn sc,.int .i64 (us.length:Int),.int .i64 (F:Int),.int .i64 (T:Int)] 128)).heap[w2.heap.size+1]?=some (.cells #[.slice sa sn sc,.int .i64 (us.length:Int),.int .i64 (F:Int),.int .i64 (T:Int)] 128 (0,0))):=fun C=>by
     have:=heap_alloc_new (w2.alloc C) (.cells #[.slice sa sn sc,.int .i64 (us.length:Int),.int .i64 (F:Int),.int .i64 (T:Int)] 128)
     simpa using this
    go_wp2_with (at_builtin;go_must (refine wpList_append_lies _ (by rfl) _ _ 28 (by rfl) w.heap.size 128 i0 (.agg #[.slice none 0 0,.int .i64 0,.int .i64 0,.int .i64 0]) 4 48 Tryz.underlying28 hi hz0 hz1 hz2 rfl (by decide) _ us.length (us.flatMap enc4) (by rfl) ((hrow2.alloc _).alloc _) ⟨w2.heap.size+1,0,none⟩ 1 1 (enc4 (.slice sa sn sc,cs,us.length,F,T)) (by rfl) rfl (World.news_of_block (HNB.out _)) (by simp [enc4,Value.oneCell']) (by decide) (by unfold maxLen;omega) (by omega) (by simp;omega) (w2.heap.size+1+1) (by simp) ?_);intro gn capn w3 hown1 hgrow hat hlt1;have hB3:Below w.heap.size w w3:=Below.grown ((hB2.alloc (by omega) _).alloc (by simp;omega) _) hgrow (by simp;omega) fun j ej=>(ownBlock_lt hrow2 ej).2;have hK3:Kp w2 w3:=((Kp.alloc w2 _).trans (Kp.alloc _ _)).trans (Kp.of_grown ((hrow2.alloc _).alloc _) (by decide) hgrow))
    refine ⟨⟨q+z,m',us.map (·.2)++[(cs,us.length,F,T)],by go_num,by omega,hm',by simp;omega,?_,⟨us++[(.slice sa sn sc,cs,us.length,F,T)],by simp,?_,?_⟩,hB3⟩,by simp [intOf];omega⟩
    ·have:=HX2.out
     show _=_
     rw [← this];simp
    ·rw [enc4_snoc,List.length_append]
     exact hown1
    ·intro u hu
     rcases List.mem_append.1 hu with hu | hu
     ·exact (hco u hu).kp ((Kp.of_below h2 (Nat.le_refl _)).trans hK3)
     ·obtain rfl:=List.mem_singleton.1 hu
      exact hcr.kp hK3
  ·have hltI:¬ (q:Int)<(xs.length:Int):=by omega
   have hx:pre=ys:=by have:=HX.out;rw [Pl.cutS_nil hlt,Pl.toksC] at this;simpa using this
   subst hx
   go_wp2
   go_ret
   exact ⟨_,rfl,hT,hB⟩
end Go.Proofs.YtcmgclckknpecaaGreatDoor
