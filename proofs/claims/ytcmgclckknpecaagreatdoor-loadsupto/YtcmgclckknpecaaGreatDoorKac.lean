import Derived.Test.YtcmgclckknpecaaGreatDoorKab
namespace Go.Proofs.YtcmgclckknpecaaGreatDoor
open Go.RowKit Go.Shelf
set_option maxHeartbeats 4000000 in
set_option maxRecDepth 1000000 in
theorem esc_named (B:Nat) (v:Value) (n:Nat) (xs:List Value) (r:Int) (k:Nat) (Hk:Hid (r=(k:Int))) (W0 w:World) (hb:Lib.OwnBuf B 5 v n xs W0 w) (hlen:n+10≤140737488355328) (hq:k=7∨k=8∨k=12∨k=10∨k=13∨k=9∨k=11) :
  Calls Tryz.prog 349 #[v,.int .i32 r,.int .u8 34,.bool true,.bool false] w fun e w'=>∃ v',e=.returned v'∧Lib.OwnBuf B 5 v' (n+(Pl.esc k).length) (xs++Lib.intCells (Pl.esc k)) W0 w':=by
 obtain ⟨i0,hi,hz0,hz1,hz2⟩:=info5
 have hrk:=Hk.out
 have e387:∀ args w,(callFunc 387 args).run Tryz.prog w=.ok (.enter 387 args) w:=enters_of Tryz.func387 (by kernel_rfl) rfl
 have cP:Calls Tryz.prog 387 #[.int .i32 r] w fun e w'=>e=.returned (.bool false)∧w'=w:=by
  have:=isprint_low k (by omega) w
  rw [hrk]
  rwa [decide_eq_false (by omega)] at this
 subst hrk
 go_enter Tryz.func349,Tryz.ntmps349
 rcases hq with rfl | rfl | rfl | rfl | rfl | rfl | rfl
 all_goals (
  go_big_wp2_with (first | (go_at_fn 387;go_fit cP;rintro e w1 ⟨rfl,rfl⟩) | (at_builtin;first
   | (refine Lib.wpList_append_byte rfl _ _ 164 rfl B 5 i0 u164 hi hz0 hz1 hz2 _ _ _ rfl W0 _ _ (by assumption) rfl (by first | omega | (simp only [Lib.size_two];omega)) ?_;intro _ _ hb)
   | (refine Lib.wpList_append_text rfl _ _ 164 9 rfl B 5 i0 u164 u9s hi hz0 hz1 hz2 _ _ _ rfl W0 (by assumption) _ rfl (by first | omega | (simp only [Lib.size_two];omega)) ?_;intro _ _ hb)))
  go_ret
  refine ⟨_,rfl,?_⟩
  simpa [Pl.esc,Lib.intCells,Lib.strCells,Lib.size_two,List.append_assoc] using hb)
set_option maxHeartbeats 4000000 in
set_option maxRecDepth 1000000 in
theorem esc_hex (B:Nat) (v:Value) (n:Nat) (xs:List Value) (r:Int) (k:Nat) (Hk:Hid (r=(k:Int))) (W0 w:World) (hb:Lib.OwnBuf B 5 v n xs W0 w) (hlen:n+10≤140737488355328) (hx:k<32∨k=127) (hn:¬ (k=7∨k=8∨k=12∨k=10∨k=13∨k=9∨k=11)) :
  Calls Tryz.prog 349 #[v,.int .i32 r,.int .u8 34,.bool true,.bool false] w fun e w'=>∃ v',e=.returned v'∧Lib.OwnBuf B 5 v' (n+(Pl.esc k).length) (xs++Lib.intCells (Pl.esc k)) W0 w':=by
 obtain ⟨i0,hi,hz0,hz1,hz2⟩:=info5
 have hrk:=Hk.out
 have e387:∀ args w,(callFunc 387 args).run Tryz.prog w=.ok (.enter 387 args) w:=enters_of Tryz.func387 (by kernel_rfl) rfl
 have cP:Calls Tryz.prog 387 #[.int .i32 r] w fun e w'=>e=.returned (.bool false)∧w'=w:=by
  have:=isprint_low k (by omega) w
  rw [hrk]
  rwa [decide_eq_false (by omega)] at this
 have hk:k<128:=by omega
 have HE:Hid (Pl.esc k=[92,120,Lib.hexDigit (k / 16),Lib.hexDigit (k % 16)]):=(by
   unfold Pl.esc
   rw [if_neg (by omega),if_neg (by omega),if_neg (by omega),if_neg (by omega),if_neg (by omega),if_neg (by omega),if_neg (by omega),if_neg (by omega),if_neg (by omega),if_pos hx]:Pl.esc k=_)
 subst hrk
 have hb0:((k:Int) == 34)=false:=by simp;omega
 have hb1:((k:Int) == 92)=false:=by simp;omega
 have hb2:((k:Int) == 7)=false:=by simp;omega
 have hb3:((k:Int) == 8)=false:=by simp;omega
 have hb4:((k:Int) == 12)=false:=by simp;omega
 have hb5:((k:Int) == 10)=false:=by simp;omega
 have hb6:((k:Int) == 13)=false:=by simp;omega
 have hb7:((k:Int) == 9)=false:=by simp;omega
 have hb8:((k:Int) == 11)=false:=by simp;omega
 have hw8:=wrap_u8 (k:=k) (by omega)
 clear hn
 rcases hx with hx | rfl
 ·have hx1:(k:Int)<32:=by omega
  go_enter Tryz.func349,Tryz.ntmps349
  go_big_wp2_with (first | (go_at_fn 387;go_fit cP;rintro e w1 ⟨rfl,rfl⟩) | (at_builtin;first
   | (refine Lib.wpList_append_byte rfl _ _ 164 rfl B 5 i0 u164 hi hz0 hz1 hz2 _ _ _ rfl W0 _ _ (by assumption) rfl (by first | omega | (simp only [Lib.size_two];omega)) ?_;intro _ _ hb)
   | (refine Lib.wpList_append_text rfl _ _ 164 9 rfl B 5 i0 u164 u9s hi hz0 hz1 hz2 _ _ _ rfl W0 (by assumption) _ rfl (by first | omega | (simp only [Lib.size_two];omega)) ?_;intro _ _ hb)))
  go_ret
  refine ⟨_,rfl,?_⟩
  rw [HE.out]
  simpa [Lib.intCells,Lib.strCells,Lib.size_two,Lib.lowerhex_at,List.append_assoc] using hb
 ·go_enter Tryz.func349,Tryz.ntmps349
  go_big_wp2_with (first | (go_at_fn 387;go_fit cP;rintro e w1 ⟨rfl,rfl⟩) | (at_builtin;first
   | (refine Lib.wpList_append_byte rfl _ _ 164 rfl B 5 i0 u164 hi hz0 hz1 hz2 _ _ _ rfl W0 _ _ (by assumption) rfl (by first | omega | (simp only [Lib.size_two];omega)) ?_;intro _ _ hb)
   | (refine Lib.wpList_append_text rfl _ _ 164 9 rfl B 5 i0 u164 u9s hi hz0 hz1 hz2 _ _ _ rfl W0 (by assumption) _ rfl (by first | omega | (simp only [Lib.size_two];omega)) ?_;intro _ _ hb)))
  go_ret
  refine ⟨_,rfl,?_⟩
  rw [HE.out]
  simpa [Lib.intCells,Lib.strCells,Lib.size_two,Lib.lowerhex_at,List.append_assoc] using hb
end Go.Proofs.YtcmgclckknpecaaGreatDoor
namespace Go.Proofs.YtcmgclckknpecaaGreatDoor
open Go.RowKit Go.Shelf
set_option maxHeartbeats 4000000 in
set_option maxRecDepth 1000000 in
theorem esc_u4 (B:Nat) (v:Value) (n:Nat) (xs:List Value) (r:Int) (k:Nat) (Hk:Hid (r=(k:Int))) (W0 w:World) (hb:Lib.OwnBuf B 5 v n xs W0 w) (hlen:n+10≤140737488355328) (hg:128≤k) (hs:k<55296∨57343<k) (hlt:k<65536) :
  Calls Tryz.prog 349 #[v,.int .i32 r,.int .u8 34,.bool true,.bool false] w fun e w'=>∃ v',e=.returned v'∧Lib.OwnBuf B 5 v' (n+(Pl.esc k).length) (xs++Lib.intCells (Pl.esc k)) W0 w':=by
 obtain ⟨i0,hi,hz0,hz1,hz2⟩:=info5
 have hrk:=Hk.out
 have e387:∀ args w,(callFunc 387 args).run Tryz.prog w=.ok (.enter 387 args) w:=enters_of Tryz.func387 (by kernel_rfl) rfl
 have e389:∀ args w,(callFunc 389 args).run Tryz.prog w=.ok (.enter 389 args) w:=enters_of Tryz.func389 (by kernel_rfl) rfl
 have cV:Calls Tryz.prog 389 #[.int .i32 r] w fun e w'=>e=.returned (.bool true)∧w'=w:=by rw [hrk];exact valid_any k (by omega) hs w
 have HE:Hid (Pl.esc k=92 :: 117 :: Lib.hexDigits k 4):=(by
  unfold Pl.esc
  rw [if_neg (by omega),if_neg (by omega),if_neg (by omega),if_neg (by omega),if_neg (by omega),if_neg (by omega),if_neg (by omega),if_neg (by omega),if_neg (by omega),if_neg (by omega),if_pos (by omega)]:Pl.esc k=_)
 obtain ⟨d0,hd0⟩:∃ d,d=k / 4096 % 16:=⟨_,rfl⟩
 have hD0:bits .and .i32 (r / 4096) 15=(d0:Int):=by
  have e:=Lib.and15_shift r k hrk (by omega) 4096
  rw [hd0];simpa using e
 have hL0:d0<16:=by omega
 have hL0':(d0:Int)<16:=by omega
 have HD0:Hid (d0=k / 4096 % 16):=hd0
 clear hd0
 obtain ⟨d1,hd1⟩:∃ d,d=k / 256 % 16:=⟨_,rfl⟩
 have hD1:bits .and .i32 (r / 256) 15=(d1:Int):=by
  have e:=Lib.and15_shift r k hrk (by omega) 256
  rw [hd1];simpa using e
 have hL1:d1<16:=by omega
 have hL1':(d1:Int)<16:=by omega
 have HD1:Hid (d1=k / 256 % 16):=hd1
 clear hd1
 obtain ⟨d2,hd2⟩:∃ d,d=k / 16 % 16:=⟨_,rfl⟩
 have hD2:bits .and .i32 (r / 16) 15=(d2:Int):=by
  have e:=Lib.and15_shift r k hrk (by omega) 16
  rw [hd2];simpa using e
 have hL2:d2<16:=by omega
 have hL2':(d2:Int)<16:=by omega
 have HD2:Hid (d2=k / 16 % 16):=hd2
 clear hd2
 obtain ⟨d3,hd3⟩:∃ d,d=k / 1 % 16:=⟨_,rfl⟩
 have hD3:bits .and .i32 r 15=(d3:Int):=by
  have e:=Lib.and15_shift r k hrk (by omega) 1
  rw [hd3];simpa using e
 have hL3:d3<16:=by omega
 have hL3':(d3:Int)<16:=by omega
 have HD3:Hid (d3=k / 1 % 16):=hd3
 clear hd3
 have hb0:(r == 34)=false:=by simp;omega
 have hb1:(r == 92)=false:=by simp;omega
 have hb2:(r == 7)=false:=by simp;omega
 have hb3:(r == 8)=false:=by simp;omega
 have hb4:(r == 12)=false:=by simp;omega
 have hb5:(r == 10)=false:=by simp;omega
 have hb6:(r == 13)=false:=by simp;omega
 have hb7:(r == 9)=false:=by simp;omega
 have hb8:(r == 11)=false:=by simp;omega
 have hb9:(r == 127)=false:=by simp;omega
 have hg3:¬ r<32:=by omega
 have hg4:¬ r<128:=by omega
 have hg1:(128:Int)≤r:=by omega
 have hg2:r<65536:=by omega
 clear hrk
 go_enter Tryz.func349,Tryz.ntmps349
 go_big_wp2_with (first | (go_at_fn 389;go_fit cV;rintro e w2 ⟨rfl,rfl⟩) | (at_builtin;first
   | (refine Lib.wpList_append_byte rfl _ _ 164 rfl B 5 i0 u164 hi hz0 hz1 hz2 _ _ _ rfl W0 _ _ (by assumption) rfl (by first | omega | (simp only [Lib.size_two];omega)) ?_;intro _ _ hb)
   | (refine Lib.wpList_append_text rfl _ _ 164 9 rfl B 5 i0 u164 u9s hi hz0 hz1 hz2 _ _ _ rfl W0 (by assumption) _ rfl (by first | omega | (simp only [Lib.size_two];omega)) ?_;intro _ _ hb)))
 refine wp_loop_rounds 5 ?_
 rw [rounds_succ]
 go_big_wp2_with (at_builtin;first
   | (refine Lib.wpList_append_byte rfl _ _ 164 rfl B 5 i0 u164 hi hz0 hz1 hz2 _ _ _ rfl W0 _ _ (by assumption) rfl (by first | omega | (simp only [Lib.size_two];omega)) ?_;intro _ _ hb)
   | (refine Lib.wpList_append_text rfl _ _ 164 9 rfl B 5 i0 u164 u9s hi hz0 hz1 hz2 _ _ _ rfl W0 (by assumption) _ rfl (by first | omega | (simp only [Lib.size_two];omega)) ?_;intro _ _ hb))
 rw [rounds_succ]
 go_big_wp2_with (at_builtin;first
   | (refine Lib.wpList_append_byte rfl _ _ 164 rfl B 5 i0 u164 hi hz0 hz1 hz2 _ _ _ rfl W0 _ _ (by assumption) rfl (by first | omega | (simp only [Lib.size_two];omega)) ?_;intro _ _ hb)
   | (refine Lib.wpList_append_text rfl _ _ 164 9 rfl B 5 i0 u164 u9s hi hz0 hz1 hz2 _ _ _ rfl W0 (by assumption) _ rfl (by first | omega | (simp only [Lib.size_two];omega)) ?_;intro _ _ hb))
 rw [rounds_succ]
 go_big_wp2_with (at_builtin;first
   | (refine Lib.wpList_append_byte rfl _ _ 164 rfl B 5 i0 u164 hi hz0 hz1 hz2 _ _ _ rfl W0 _ _ (by assumption) rfl (by first | omega | (simp only [Lib.size_two];omega)) ?_;intro _ _ hb)
   | (refine Lib.wpList_append_text rfl _ _ 164 9 rfl B 5 i0 u164 u9s hi hz0 hz1 hz2 _ _ _ rfl W0 (by assumption) _ rfl (by first | omega | (simp only [Lib.size_two];omega)) ?_;intro _ _ hb))
 rw [rounds_succ]
 go_big_wp2_with (at_builtin;first
   | (refine Lib.wpList_append_byte rfl _ _ 164 rfl B 5 i0 u164 hi hz0 hz1 hz2 _ _ _ rfl W0 _ _ (by assumption) rfl (by first | omega | (simp only [Lib.size_two];omega)) ?_;intro _ _ hb)
   | (refine Lib.wpList_append_text rfl _ _ 164 9 rfl B 5 i0 u164 u9s hi hz0 hz1 hz2 _ _ _ rfl W0 (by assumption) _ rfl (by first | omega | (simp only [Lib.size_two];omega)) ?_;intro _ _ hb))
 rw [rounds_succ]
 go_big_wp2_with (at_builtin;first
   | (refine Lib.wpList_append_byte rfl _ _ 164 rfl B 5 i0 u164 hi hz0 hz1 hz2 _ _ _ rfl W0 _ _ (by assumption) rfl (by first | omega | (simp only [Lib.size_two];omega)) ?_;intro _ _ hb)
   | (refine Lib.wpList_append_text rfl _ _ 164 9 rfl B 5 i0 u164 u9s hi hz0 hz1 hz2 _ _ _ rfl W0 (by assumption) _ rfl (by first | omega | (simp only [Lib.size_two];omega)) ?_;intro _ _ hb))
 go_ret
 refine ⟨_,rfl,?_⟩
 rw [HE.out]
 simpa [Lib.intCells,Lib.strCells,Lib.size_two,Lib.lowerhex_at,Lib.hexDigits,List.append_assoc,HD0.out,HD1.out,HD2.out,HD3.out] using hb
end Go.Proofs.YtcmgclckknpecaaGreatDoor
namespace Go.Proofs.YtcmgclckknpecaaGreatDoor
open Go.RowKit Go.Shelf
set_option maxHeartbeats 4000000 in
set_option maxRecDepth 1000000 in
theorem esc_u8 (B:Nat) (v:Value) (n:Nat) (xs:List Value) (r:Int) (k:Nat) (Hk:Hid (r=(k:Int))) (W0 w:World) (hb:Lib.OwnBuf B 5 v n xs W0 w) (hlen:n+10≤140737488355328) (hg:65536≤k) (hm:k≤1114111) :
  Calls Tryz.prog 349 #[v,.int .i32 r,.int .u8 34,.bool true,.bool false] w fun e w'=>∃ v',e=.returned v'∧Lib.OwnBuf B 5 v' (n+(Pl.esc k).length) (xs++Lib.intCells (Pl.esc k)) W0 w':=by
 obtain ⟨i0,hi,hz0,hz1,hz2⟩:=info5
 have hrk:=Hk.out
 have e387:∀ args w,(callFunc 387 args).run Tryz.prog w=.ok (.enter 387 args) w:=enters_of Tryz.func387 (by kernel_rfl) rfl
 have e389:∀ args w,(callFunc 389 args).run Tryz.prog w=.ok (.enter 389 args) w:=enters_of Tryz.func389 (by kernel_rfl) rfl
 have cV:Calls Tryz.prog 389 #[.int .i32 r] w fun e w'=>e=.returned (.bool true)∧w'=w:=by rw [hrk];exact valid_any k (by omega) (by omega) w
 have HE:Hid (Pl.esc k=92 :: 85 :: Lib.hexDigits k 8):=(by
  unfold Pl.esc
  rw [if_neg (by omega),if_neg (by omega),if_neg (by omega),if_neg (by omega),if_neg (by omega),if_neg (by omega),if_neg (by omega),if_neg (by omega),if_neg (by omega),if_neg (by omega),if_neg (by omega)]:Pl.esc k=_)
 obtain ⟨d0,hd0⟩:∃ d,d=k / 268435456 % 16:=⟨_,rfl⟩
 have hD0:bits .and .i32 (r / 268435456) 15=(d0:Int):=by
  have e:=Lib.and15_shift r k hrk (by omega) 268435456
  rw [hd0];simpa using e
 have hL0:d0<16:=by omega
 have hL0':(d0:Int)<16:=by omega
 have HD0:Hid (d0=k / 268435456 % 16):=hd0
 clear hd0
 obtain ⟨d1,hd1⟩:∃ d,d=k / 16777216 % 16:=⟨_,rfl⟩
 have hD1:bits .and .i32 (r / 16777216) 15=(d1:Int):=by
  have e:=Lib.and15_shift r k hrk (by omega) 16777216
  rw [hd1];simpa using e
 have hL1:d1<16:=by omega
 have hL1':(d1:Int)<16:=by omega
 have HD1:Hid (d1=k / 16777216 % 16):=hd1
 clear hd1
 obtain ⟨d2,hd2⟩:∃ d,d=k / 1048576 % 16:=⟨_,rfl⟩
 have hD2:bits .and .i32 (r / 1048576) 15=(d2:Int):=by
  have e:=Lib.and15_shift r k hrk (by omega) 1048576
  rw [hd2];simpa using e
 have hL2:d2<16:=by omega
 have hL2':(d2:Int)<16:=by omega
 have HD2:Hid (d2=k / 1048576 % 16):=hd2
 clear hd2
 obtain ⟨d3,hd3⟩:∃ d,d=k / 65536 % 16:=⟨_,rfl⟩
 have hD3:bits .and .i32 (r / 65536) 15=(d3:Int):=by
  have e:=Lib.and15_shift r k hrk (by omega) 65536
  rw [hd3];simpa using e
 have hL3:d3<16:=by omega
 have hL3':(d3:Int)<16:=by omega
 have HD3:Hid (d3=k / 65536 % 16):=hd3
 clear hd3
 obtain ⟨d4,hd4⟩:∃ d,d=k / 4096 % 16:=⟨_,rfl⟩
 have hD4:bits .and .i32 (r / 4096) 15=(d4:Int):=by
  have e:=Lib.and15_shift r k hrk (by omega) 4096
  rw [hd4];simpa using e
 have hL4:d4<16:=by omega
 have hL4':(d4:Int)<16:=by omega
 have HD4:Hid (d4=k / 4096 % 16):=hd4
 clear hd4
 obtain ⟨d5,hd5⟩:∃ d,d=k / 256 % 16:=⟨_,rfl⟩
 have hD5:bits .and .i32 (r / 256) 15=(d5:Int):=by
  have e:=Lib.and15_shift r k hrk (by omega) 256
  rw [hd5];simpa using e
 have hL5:d5<16:=by omega
 have hL5':(d5:Int)<16:=by omega
 have HD5:Hid (d5=k / 256 % 16):=hd5
 clear hd5
 obtain ⟨d6,hd6⟩:∃ d,d=k / 16 % 16:=⟨_,rfl⟩
 have hD6:bits .and .i32 (r / 16) 15=(d6:Int):=by
  have e:=Lib.and15_shift r k hrk (by omega) 16
  rw [hd6];simpa using e
 have hL6:d6<16:=by omega
 have hL6':(d6:Int)<16:=by omega
 have HD6:Hid (d6=k / 16 % 16):=hd6
 clear hd6
 obtain ⟨d7,hd7⟩:∃ d,d=k / 1 % 16:=⟨_,rfl⟩
 have hD7:bits .and .i32 r 15=(d7:Int):=by
  have e:=Lib.and15_shift r k hrk (by omega) 1
  rw [hd7];simpa using e
 have hL7:d7<16:=by omega
 have hL7':(d7:Int)<16:=by omega
 have HD7:Hid (d7=k / 1 % 16):=hd7
 clear hd7
 have hb0:(r == 34)=false:=by simp;omega
 have hb1:(r == 92)=false:=by simp;omega
 have hb2:(r == 7)=false:=by simp;omega
 have hb3:(r == 8)=false:=by simp;omega
 have hb4:(r == 12)=false:=by simp;omega
 have hb5:(r == 10)=false:=by simp;omega
 have hb6:(r == 13)=false:=by simp;omega
 have hb7:(r == 9)=false:=by simp;omega
 have hb8:(r == 11)=false:=by simp;omega
 have hb9:(r == 127)=false:=by simp;omega
 have hg3:¬ r<32:=by omega
 have hg4:¬ r<128:=by omega
 have hg5:¬ r<65536:=by omega
 have hg1:(65536:Int)≤r:=by omega
 have hg2:r≤1114111:=by omega
 clear hrk
 go_enter Tryz.func349,Tryz.ntmps349
 go_big_wp2_with (first | (go_at_fn 389;go_fit cV;rintro e w2 ⟨rfl,rfl⟩) | (at_builtin;first
   | (refine Lib.wpList_append_byte rfl _ _ 164 rfl B 5 i0 u164 hi hz0 hz1 hz2 _ _ _ rfl W0 _ _ (by assumption) rfl (by first | omega | (simp only [Lib.size_two];omega)) ?_;intro _ _ hb)
   | (refine Lib.wpList_append_text rfl _ _ 164 9 rfl B 5 i0 u164 u9s hi hz0 hz1 hz2 _ _ _ rfl W0 (by assumption) _ rfl (by first | omega | (simp only [Lib.size_two];omega)) ?_;intro _ _ hb)))
 refine wp_loop_rounds 9 ?_
 rw [rounds_succ]
 go_big_wp2_with (at_builtin;first
   | (refine Lib.wpList_append_byte rfl _ _ 164 rfl B 5 i0 u164 hi hz0 hz1 hz2 _ _ _ rfl W0 _ _ (by assumption) rfl (by first | omega | (simp only [Lib.size_two];omega)) ?_;intro _ _ hb)
   | (refine Lib.wpList_append_text rfl _ _ 164 9 rfl B 5 i0 u164 u9s hi hz0 hz1 hz2 _ _ _ rfl W0 (by assumption) _ rfl (by first | omega | (simp only [Lib.size_two];omega)) ?_;intro _ _ hb))
 rw [rounds_succ]
 go_big_wp2_with (at_builtin;first
   | (refine Lib.wpList_append_byte rfl _ _ 164 rfl B 5 i0 u164 hi hz0 hz1 hz2 _ _ _ rfl W0 _ _ (by assumption) rfl (by first | omega | (simp only [Lib.size_two];omega)) ?_;intro _ _ hb)
   | (refine Lib.wpList_append_text rfl _ _ 164 9 rfl B 5 i0 u164 u9s hi hz0 hz1 hz2 _ _ _ rfl W0 (by assumption) _ rfl (by first | omega | (simp only [Lib.size_two];omega)) ?_;intro _ _ hb))
 rw [rounds_succ]
 go_big_wp2_with (at_builtin;first
   | (refine Lib.wpList_append_byte rfl _ _ 164 rfl B 5 i0 u164 hi hz0 hz1 hz2 _ _ _ rfl W0 _ _ (by assumption) rfl (by first | omega | (simp only [Lib.size_two];omega)) ?_;intro _ _ hb)
   | (refine Lib.wpList_append_text rfl _ _ 164 9 rfl B 5 i0 u164 u9s hi hz0 hz1 hz2 _ _ _ rfl W0 (by assumption) _ rfl (by first | omega | (simp only [Lib.size_two];omega)) ?_;intro _ _ hb))
 rw [rounds_succ]
 go_big_wp2_with (at_builtin;first
   | (refine Lib.wpList_append_byte rfl _ _ 164 rfl B 5 i0 u164 hi hz0 hz1 hz2 _ _ _ rfl W0 _ _ (by assumption) rfl (by first | omega | (simp only [Lib.size_two];omega)) ?_;intro _ _ hb)
   | (refine Lib.wpList_append_text rfl _ _ 164 9 rfl B 5 i0 u164 u9s hi hz0 hz1 hz2 _ _ _ rfl W0 (by assumption) _ rfl (by first | omega | (simp only [Lib.size_two];omega)) ?_;intro _ _ hb))
 rw [rounds_succ]
 go_big_wp2_with (at_builtin;first
   | (refine Lib.wpList_append_byte rfl _ _ 164 rfl B 5 i0 u164 hi hz0 hz1 hz2 _ _ _ rfl W0 _ _ (by assumption) rfl (by first | omega | (simp only [Lib.size_two];omega)) ?_;intro _ _ hb)
   | (refine Lib.wpList_append_text rfl _ _ 164 9 rfl B 5 i0 u164 u9s hi hz0 hz1 hz2 _ _ _ rfl W0 (by assumption) _ rfl (by first | omega | (simp only [Lib.size_two];omega)) ?_;intro _ _ hb))
 rw [rounds_succ]
 go_big_wp2_with (at_builtin;first
   | (refine Lib.wpList_append_byte rfl _ _ 164 rfl B 5 i0 u164 hi hz0 hz1 hz2 _ _ _ rfl W0 _ _ (by assumption) rfl (by first | omega | (simp only [Lib.size_two];omega)) ?_;intro _ _ hb)
   | (refine Lib.wpList_append_text rfl _ _ 164 9 rfl B 5 i0 u164 u9s hi hz0 hz1 hz2 _ _ _ rfl W0 (by assumption) _ rfl (by first | omega | (simp only [Lib.size_two];omega)) ?_;intro _ _ hb))
 rw [rounds_succ]
 go_big_wp2_with (at_builtin;first
   | (refine Lib.wpList_append_byte rfl _ _ 164 rfl B 5 i0 u164 hi hz0 hz1 hz2 _ _ _ rfl W0 _ _ (by assumption) rfl (by first | omega | (simp only [Lib.size_two];omega)) ?_;intro _ _ hb)
   | (refine Lib.wpList_append_text rfl _ _ 164 9 rfl B 5 i0 u164 u9s hi hz0 hz1 hz2 _ _ _ rfl W0 (by assumption) _ rfl (by first | omega | (simp only [Lib.size_two];omega)) ?_;intro _ _ hb))
 rw [rounds_succ]
 go_big_wp2_with (at_builtin;first
   | (refine Lib.wpList_append_byte rfl _ _ 164 rfl B 5 i0 u164 hi hz0 hz1 hz2 _ _ _ rfl W0 _ _ (by assumption) rfl (by first | omega | (simp only [Lib.size_two];omega)) ?_;intro _ _ hb)
   | (refine Lib.wpList_append_text rfl _ _ 164 9 rfl B 5 i0 u164 u9s hi hz0 hz1 hz2 _ _ _ rfl W0 (by assumption) _ rfl (by first | omega | (simp only [Lib.size_two];omega)) ?_;intro _ _ hb))
 rw [rounds_succ]
 go_big_wp2_with (at_builtin;first
   | (refine Lib.wpList_append_byte rfl _ _ 164 rfl B 5 i0 u164 hi hz0 hz1 hz2 _ _ _ rfl W0 _ _ (by assumption) rfl (by first | omega | (simp only [Lib.size_two];omega)) ?_;intro _ _ hb)
   | (refine Lib.wpList_append_text rfl _ _ 164 9 rfl B 5 i0 u164 u9s hi hz0 hz1 hz2 _ _ _ rfl W0 (by assumption) _ rfl (by first | omega | (simp only [Lib.size_two];omega)) ?_;intro _ _ hb))
 go_ret
 refine ⟨_,rfl,?_⟩
 rw [HE.out]
 simpa [Lib.intCells,Lib.strCells,Lib.size_two,Lib.lowerhex_at,Lib.hexDigits,List.append_assoc,HD0.out,HD1.out,HD2.out,HD3.out,HD4.out,HD5.out,HD6.out,HD7.out] using hb
end Go.Proofs.YtcmgclckknpecaaGreatDoor
