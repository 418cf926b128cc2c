/- A part of it. -/
import Derived.Test.YtjkjpopghkeibaaGreatDoorQlbd
import Derived.Test.YtjkjpopghkeibaaGreatDoorQlbl
import Derived.Test.YtjkjpopghkeibaaGreatDoorQlbg
set_option maxRecDepth 100000
set_option maxHeartbeats 40000000
namespace Go.Proofs.YtjkjpopghkeibaaGreatDoor
open Go.RowKit Go.ChangeMaps
variable {L:List T3} {W b base c1 c2 c3 c4 n:Nat} {V w:World} {a a0 a1 b1 c c0 mp:Option Addr} {h:Nat→Int} {M:Nat→M6}
theorem lv_one9 {P:Nat→T3} {S:List (T3×List T3)} {h':Nat→Int} (c:L.Nodup) (d:StOk L P S) (hl:Lv S L h S.length 0) (a:Lv S L h' S.length 0) {i:Nat} (hi:i<L.length):h i=h' i:=by
 obtain ⟨m,k,b,f,e,_,e2⟩:=lv_at c d hl hi;rw [e2,a i hi m k b f e (Or.inl b)]
def Mdl9 (D:MD) (c:Nat):Prop:=D.a0.length≤c∧D.b0.length≤c∧D.a1.length≤c∧D.b1.length≤c
theorem gF_len {kd:E4→Int} {M:Nat→M6} {pl:Nat→T3} {E:E4}:∀ (J:List (Nat×C5)) (D:MD) (c:Nat),Mdl9 D c→Mdl9 (J.foldl (gF kd M pl E) D) (c+J.length)
 | [],_,_,h=>h
 | p :: J,D,c,h=>by
  have:=gF_len (kd:=kd) (M:=M) (pl:=pl) (E:=E) J (gF kd M pl E D p) (c+1) (by
   obtain ⟨h1,h2,h3,h4⟩:=h;unfold gF mt mtO mtF;repeat' split
   all_goals refine ⟨?_, ?_, ?_, ?_⟩ <;> (try simp) <;> omega)
  rw [List.foldl_cons,List.length_cons];obtain ⟨h1,h2,h3,h4⟩:=this;exact ⟨γ,γ,γ,γ⟩
theorem md_of9 {kd:E4→Int} {pl:List T3} (a:(gJs L).length≤100000) (E:E4):MdOk (gA kd L M pl L.length E) L.length:=by
 refine (gA_in (fun i _ q hq=>(jl_pos hq).2) L.length (Nr _) E).ok (c:=0+(gJs L).length) ?_ γ;rw [gA_js,stJ_at];exact gF_len (gJs L) mdZ 0 ⟨Nr _,Nr _,Nr _,Nr _⟩
def zW (W:Nat):List Int:=List.replicate W 15
theorem zW_len (W:Nat):(zW W).length=W:=by simp [zW]
theorem gK_len (cs:List C5):(gK cs).length=cs.length*5:=by
 induction cs with
 | nil=>rfl
 | cons c cs ih =>
  have:gK (c :: cs)=[c.1.1,c.1.2.1,c.1.2.2.1,c.1.2.2.2,c.2] ++ gK cs:=rfl;rw [this,List.length_append,ih,List.length_cons];simp only [List.length_cons,List.length_nil];omega
structure WOk (W:Nat) (L:List T3):Prop where
 w1:1≤W
 w8:W≤8
 e:ty (zW W) W 1=L
 st:StripD L
 js:(gJs L).length≤100000
structure StA (W:Nat) (L:List T3) (d:Dg) (a0 c0 mp sp:Option Addr) (w:World):Prop where
 z:Row w a0 (zW W)
 za:∃ b off,a0=Ad b off
 k:Row w c0 (gK d.cs)
 ka:c0=none∨∃ p off,c0=Ad p off
 m:∃ g,mp=Az g∧MRow w g L.length (gM d)
 s:SRow w sp (gS L d)
theorem StA.kept {d:Dg} {w':World} (h:StA W L d a0 c0 mp a w) (hb:Bl w w'):StA W L d a0 c0 mp a w':=by
 obtain ⟨g,e,hg⟩:=h.m;exact ⟨h.z.kept hb,h.za,h.k.kept hb,h.ka,⟨g,e,hg.kept hb⟩,h.s.kept hb⟩
theorem lay_dg (a:WOk W L) (cs:List C5) (a0 c0:Option Addr) (c d:Nat) (w:World) (j:Row w a0 (zW W)) (g:∃ b off,a0=Ad b off) (h:Row w c0 (gK cs)) (hs:Steps w) (f:∀ i,i<cs.length→CrOk L (gK cs) i) (l:cs.length≤100) :
  Cl 17 #[.agg #[I (W:Int),I 1,.slice a0 W c,.slice c0 cs.length d]] w fun e w'=>∃ ad k base ra rk,e=.returned (.tuple #[.agg #[.slice ad L.length k,.map (some ra),.map (some rk)],.bool true])∧PK w w' base ra rk (.slice ad L.length k) L (gix L) (kf (gK cs) cs.length):=by
 obtain ⟨b,off,rfl⟩:=g;have:=lay_yes W 1 b off c cs.length d c0 (zW W) (gK cs) w j ⟨a.w1,a.w8⟩ ⟨γ,γ⟩ (by rw [zW_len];omega) (by simp [maskB,zW]) h (gK_len cs) γ hs (by rw [a.e];exact a.st.jo) (by rw [a.e];exact f);rw [a.e,zW_len] at this;exact this
theorem Hg0.like {h':Nat→Int} (k:Hg0 w b n h) (e:∀ i,i<n→h i=h' i):Hg0 w b n h':=by
 obtain ⟨g,c,h1,h2⟩:=k;exact ⟨g,c,h1,fun i hi=>by rw [← e i hi];exact h2 i hi⟩
theorem of_dg {d:Dg} (x:WOk W L) (b:GoodD L d) {v:Option Addr} (p q y A:Nat) (w:World) (c:StA W L d a0 c0 mp v w) (hs:Steps w) :
  Cl 16 #[.agg #[I (W:Int),I 1,.slice a0 W p,.slice c0 d.cs.length q,.slice mp L.length y,.slice v (gS L d).length A]] w fun e w'=>∃ f k n o j r pa pc g,e=.returned (.tuple #[.agg #[.slice f L.length k,.map (some n),.map (some o),.slice (Az j) L.length r,.slice pa L.length pc],.func (.func 90) #[] #[.pointer (Az g)],.bool true])∧HandAt w w' f k n o j pa g L (gK d.cs) d.cs.length (gM d) (gH d)∧Bl w w':=by
 have a:=x.st;have D:=b.sl;have B:=a.le;have t:SOk (kdn (gK d.cs) d.cs.length) L L.length (gM d) (gS L d):=⟨rfl,b.mo,b.st⟩;refine (of_yesw (W:Int) 1 a0 c0 mp v W p d.cs.length q L.length y A w (gK d.cs) d.cs.length L (gM d) (gS L d) hs (fun V u=>lay_dg x d.cs a0 c0 p q V (c.z.kept u) c.za (c.k.kept u) (hs.kept u) b.cr b.cn) (fun _=>c.m) c.s a.up a.pos γ a.bd γ (fun s h=>by have:=b.se s h;omega)).mono ?_;rintro e w' (⟨_,C⟩ | ⟨_,f,k,n,o,j,r,pa,pc,g,h,rfl,l,hl,hb⟩)
 ·exact absurd t C
 ·exact ⟨f,k,n,o,j,r,pa,pc,g,rfl,⟨l.1,l.2.1,l.2.2.1,l.2.2.2.like fun i hi=>lv_one9 a.nd b.st hl b.lv hi⟩,hb⟩
theorem clash_dg {d:Dg} (b:WOk W L) (h:GoodD L d) {m:Option Addr} (f g i j:Nat) (w:World) (v:StA W L d a0 c0 mp m w) (hs:Steps w) :
  Cl 24 #[.agg #[I (W:Int),I 1,.slice a0 W f,.slice c0 d.cs.length g,.slice mp L.length i,.slice m (gS L d).length j]] w fun e w'=>∃ q qc,e=.returned (.tuple #[.slice q 0 qc,I 0])∧Bl w w':=by
 have x:=b.st.le;refine (clashes_ok (W:Int) 1 a0 c0 mp m W f d.cs.length g L.length i (gS L d).length j (gKd d) L (gM d) (gH d) w (fun V p=>(of_dg b h f g i j V (v.kept p) (hs.kept p)).mono ?_) hs γ b.st.bd h.mo.1 (md_of9 b.js)).mono ?_
 ·rintro e w' ⟨s,k,A,B,u,n,pa,pc,t,rfl,o,hb⟩;exact ⟨s,k,A,B,u,n,pa,pc,t,rfl,o.pile n pc,o.2.2.2.hg,hb⟩
 ·rintro e w' ⟨a,c,C,rfl,_,_,z,hb⟩
  have:C=[]:=by
   cases C with
   | nil=>rfl
   | cons y l =>
    obtain ⟨E,k,r,_⟩:=(z y).1 ξ;rw [h.cl E] at r;simp at r
  subst this;exact ⟨a,c,rfl,hb⟩
def Lg0:List T3:=[(0,0,0),(0,0,1),(0,0,2),(0,0,3)]
def Jg0:List (Nat×C5):=[(0,((0,0,1,1),3)),(0,((1,1,2,0),1)),(1,((1,1,2,0),0)),(1,((1,1,2,2),2)),(2,((1,1,2,2),1)),(2,((0,2,1,1),3)),(3,((0,2,1,1),2)),(3,((0,0,1,1),0))]
def Lg1:List T3:=[(0,0,0),(0,0,1),(0,0,2),(0,0,3),(1,0,0),(1,0,1),(1,0,2),(1,0,3)]
def Jg1:List (Nat×C5):=[(0,((0,0,1,1),3)),(0,((1,1,2,0),1)),(1,((1,1,2,0),0)),(1,((2,0,2,2),7)),(1,((1,1,2,2),2)),(2,((1,1,2,2),1)),(2,((0,2,1,1),3)),(3,((0,2,1,1),2)),(3,((0,0,1,1),0)),(4,((2,0,3,1),7)),(4,((3,1,4,0),5)),(5,((3,1,4,0),4)),(5,((3,1,4,2),6)),(6,((3,1,4,2),5)),(6,((2,2,3,1),7)),(7,((2,2,3,1),6)),(7,((2,0,2,2),1)),(7,((2,0,3,1),4))]
def Lg2:List T3:=[(0,0,0),(0,0,1),(0,0,2),(0,0,3),(1,0,0),(1,0,1),(1,0,2),(1,0,3),(2,0,0),(2,0,1),(2,0,2),(2,0,3),(3,0,0),(3,0,1),(3,0,2),(3,0,3)]
def Jg2:List (Nat×C5):=[(0,((0,0,1,1),3)),(0,((1,1,2,0),1)),(1,((1,1,2,0),0)),(1,((2,0,2,2),7)),(1,((1,1,2,2),2)),(2,((1,1,2,2),1)),(2,((0,2,1,1),3)),(3,((0,2,1,1),2)),(3,((0,0,1,1),0)),(4,((2,0,3,1),7)),(4,((3,1,4,0),5)),(5,((3,1,4,0),4)),(5,((4,0,4,2),11)),(5,((3,1,4,2),6)),(6,((3,1,4,2),5)),(6,((2,2,3,1),7)),(7,((2,2,3,1),6)),(7,((2,0,2,2),1)),(7,((2,0,3,1),4)),(8,((4,0,5,1),11)),(8,((5,1,6,0),9)),(9,((5,1,6,0),8)),(9,((6,0,6,2),15)),(9,((5,1,6,2),10)),(10,((5,1,6,2),9)),(10,((4,2,5,1),11)),(11,((4,2,5,1),10)),(11,((4,0,4,2),5)),(11,((4,0,5,1),8)),(12,((6,0,7,1),15)),(12,((7,1,8,0),13)),(13,((7,1,8,0),12)),(13,((7,1,8,2),14)),(14,((7,1,8,2),13)),(14,((6,2,7,1),15)),(15,((6,2,7,1),14)),(15,((6,0,6,2),9)),(15,((6,0,7,1),12))]
def Lg3:List T3:=[(0,0,0),(0,0,1),(0,0,2),(0,0,3),(1,0,0),(1,0,1),(1,0,2),(1,0,3),(2,0,0),(2,0,1),(2,0,2),(2,0,3),(3,0,0),(3,0,1),(3,0,2),(3,0,3),(4,0,0),(4,0,1),(4,0,2),(4,0,3),(5,0,0),(5,0,1),(5,0,2),(5,0,3),(6,0,0),(6,0,1),(6,0,2),(6,0,3),(7,0,0),(7,0,1),(7,0,2),(7,0,3)]
def Jg3:List (Nat×C5):=[(0,((0,0,1,1),3)),(0,((1,1,2,0),1)),(1,((1,1,2,0),0)),(1,((2,0,2,2),7)),(1,((1,1,2,2),2)),(2,((1,1,2,2),1)),(2,((0,2,1,1),3)),(3,((0,2,1,1),2)),(3,((0,0,1,1),0)),(4,((2,0,3,1),7)),(4,((3,1,4,0),5)),(5,((3,1,4,0),4)),(5,((4,0,4,2),11)),(5,((3,1,4,2),6)),(6,((3,1,4,2),5)),(6,((2,2,3,1),7)),(7,((2,2,3,1),6)),(7,((2,0,2,2),1)),(7,((2,0,3,1),4)),(8,((4,0,5,1),11)),(8,((5,1,6,0),9)),(9,((5,1,6,0),8)),(9,((6,0,6,2),15)),(9,((5,1,6,2),10)),(10,((5,1,6,2),9)),(10,((4,2,5,1),11)),(11,((4,2,5,1),10)),(11,((4,0,4,2),5)),(11,((4,0,5,1),8)),(12,((6,0,7,1),15)),(12,((7,1,8,0),13)),(13,((7,1,8,0),12)),(13,((8,0,8,2),19)),(13,((7,1,8,2),14)),(14,((7,1,8,2),13)),(14,((6,2,7,1),15)),(15,((6,2,7,1),14)),(15,((6,0,6,2),9)),(15,((6,0,7,1),12)),(16,((8,0,9,1),19)),(16,((9,1,10,0),17)),(17,((9,1,10,0),16)),(17,((10,0,10,2),23)),(17,((9,1,10,2),18)),(18,((9,1,10,2),17)),(18,((8,2,9,1),19)),(19,((8,2,9,1),18)),(19,((8,0,8,2),13)),(19,((8,0,9,1),16)),(20,((10,0,11,1),23)),(20,((11,1,12,0),21)),(21,((11,1,12,0),20)),(21,((12,0,12,2),27)),(21,((11,1,12,2),22)),(22,((11,1,12,2),21)),(22,((10,2,11,1),23)),(23,((10,2,11,1),22)),(23,((10,0,10,2),17)),(23,((10,0,11,1),20)),(24,((12,0,13,1),27)),(24,((13,1,14,0),25)),(25,((13,1,14,0),24)),(25,((14,0,14,2),31)),(25,((13,1,14,2),26)),(26,((13,1,14,2),25)),(26,((12,2,13,1),27)),(27,((12,2,13,1),26)),(27,((12,0,12,2),21)),(27,((12,0,13,1),24)),(28,((14,0,15,1),31)),(28,((15,1,16,0),29)),(29,((15,1,16,0),28)),(29,((15,1,16,2),30)),(30,((15,1,16,2),29)),(30,((14,2,15,1),31)),(31,((14,2,15,1),30)),(31,((14,0,14,2),25)),(31,((14,0,15,1),28))]
def Dg0_1:Dg:=⟨[],[(1,0,0,1,0,0),(1,0,0,1,0,0),(1,0,0,1,0,0),(1,0,0,1,0,0)],[((0,0,0),[0]),((0,0,1),[1]),((0,0,2),[2]),((0,0,3),[3])],[0,0,0,0]⟩
def Dg1_1:Dg:=⟨[],[(1,0,0,1,0,0),(1,0,0,1,0,0),(1,0,0,1,0,0),(1,0,0,1,0,0),(1,0,0,1,0,0),(1,0,0,1,0,0),(1,0,0,1,0,0),(1,0,0,1,0,0)],[((0,0,0),[0]),((0,0,1),[1]),((0,0,2),[2]),((0,0,3),[3]),((1,0,0),[4]),((1,0,1),[5]),((1,0,2),[6]),((1,0,3),[7])],[0,0,0,0,0,0,0,0]⟩
def Dg1_2:Dg:=⟨[((2,0,2,2),1)],[(1,0,0,1,0,0),(1,0,0,1,0,0),(1,0,0,1,0,0),(1,0,0,1,0,0),(-1,0,0,1,4,0),(-1,0,0,1,4,0),(-1,0,0,1,4,0),(-1,0,0,1,4,0)],[((0,0,0),[4,0]),((0,0,1),[7,1]),((0,0,2),[6,2]),((0,0,3),[5,3])],[1,1,1,1,0,0,0,0]⟩
def Dg1_3:Dg:=⟨[((2,0,2,2),2)],[(1,0,0,1,0,0),(1,0,0,1,0,0),(1,0,0,1,0,0),(1,0,0,1,0,0),(-1,0,0,1,4,0),(-1,0,0,1,4,0),(-1,0,0,1,4,0),(-1,0,0,1,4,0)],[((0,0,0),[0,4]),((0,0,1),[1,7]),((0,0,2),[2,6]),((0,0,3),[3,5])],[0,0,0,0,1,1,1,1]⟩
def Dg2_1:Dg:=⟨[],[(1,0,0,1,0,0),(1,0,0,1,0,0),(1,0,0,1,0,0),(1,0,0,1,0,0),(1,0,0,1,0,0),(1,0,0,1,0,0),(1,0,0,1,0,0),(1,0,0,1,0,0),(1,0,0,1,0,0),(1,0,0,1,0,0),(1,0,0,1,0,0),(1,0,0,1,0,0),(1,0,0,1,0,0),(1,0,0,1,0,0),(1,0,0,1,0,0),(1,0,0,1,0,0)],[((0,0,0),[0]),((0,0,1),[1]),((0,0,2),[2]),((0,0,3),[3]),((1,0,0),[4]),((1,0,1),[5]),((1,0,2),[6]),((1,0,3),[7]),((2,0,0),[8]),((2,0,1),[9]),((2,0,2),[10]),((2,0,3),[11]),((3,0,0),[12]),((3,0,1),[13]),((3,0,2),[14]),((3,0,3),[15])],[0,0,0,0,0,0,0,0,0,0,0,0,0,0,0,0]⟩
def Dg2_2:Dg:=⟨[((4,0,4,2),1)],[(1,0,0,1,0,0),(1,0,0,1,0,0),(1,0,0,1,0,0),(1,0,0,1,0,0),(1,0,0,1,0,0),(1,0,0,1,0,0),(1,0,0,1,0,0),(1,0,0,1,0,0),(-1,0,0,1,8,0),(-1,0,0,1,8,0),(-1,0,0,1,8,0),(-1,0,0,1,8,0),(-1,0,0,1,8,0),(-1,0,0,1,8,0),(-1,0,0,1,8,0),(-1,0,0,1,8,0)],[((0,0,0),[12,0]),((0,0,1),[15,1]),((0,0,2),[14,2]),((0,0,3),[13,3]),((1,0,0),[8,4]),((1,0,1),[11,5]),((1,0,2),[10,6]),((1,0,3),[9,7])],[1,1,1,1,1,1,1,1,0,0,0,0,0,0,0,0]⟩
def Dg2_3:Dg:=⟨[((4,0,4,2),2)],[(1,0,0,1,0,0),(1,0,0,1,0,0),(1,0,0,1,0,0),(1,0,0,1,0,0),(1,0,0,1,0,0),(1,0,0,1,0,0),(1,0,0,1,0,0),(1,0,0,1,0,0),(-1,0,0,1,8,0),(-1,0,0,1,8,0),(-1,0,0,1,8,0),(-1,0,0,1,8,0),(-1,0,0,1,8,0),(-1,0,0,1,8,0),(-1,0,0,1,8,0),(-1,0,0,1,8,0)],[((0,0,0),[0,12]),((0,0,1),[1,15]),((0,0,2),[2,14]),((0,0,3),[3,13]),((1,0,0),[4,8]),((1,0,1),[5,11]),((1,0,2),[6,10]),((1,0,3),[7,9])],[0,0,0,0,0,0,0,0,1,1,1,1,1,1,1,1]⟩
def Dg2_4:Dg:=⟨[((2,0,2,2),1),((4,0,4,2),1),((6,0,6,2),2)],[(1,0,0,1,0,0),(1,0,0,1,0,0),(1,0,0,1,0,0),(1,0,0,1,0,0),(-1,0,0,1,4,0),(-1,0,0,1,4,0),(-1,0,0,1,4,0),(-1,0,0,1,4,0),(1,0,0,1, -4,0),(1,0,0,1, -4,0),(1,0,0,1, -4,0),(1,0,0,1, -4,0),(-1,0,0,1,8,0),(-1,0,0,1,8,0),(-1,0,0,1,8,0),(-1,0,0,1,8,0)],[((0,0,0),[4,8,12,0]),((0,0,1),[7,9,15,1]),((0,0,2),[6,10,14,2]),((0,0,3),[5,11,13,3])],[3,3,3,3,0,0,0,0,1,1,1,1,2,2,2,2]⟩
def Dg2_5:Dg:=⟨[((2,0,2,2),2),((4,0,4,2),1),((6,0,6,2),1)],[(1,0,0,1,0,0),(1,0,0,1,0,0),(1,0,0,1,0,0),(1,0,0,1,0,0),(-1,0,0,1,4,0),(-1,0,0,1,4,0),(-1,0,0,1,4,0),(-1,0,0,1,4,0),(1,0,0,1, -4,0),(1,0,0,1, -4,0),(1,0,0,1, -4,0),(1,0,0,1, -4,0),(-1,0,0,1,8,0),(-1,0,0,1,8,0),(-1,0,0,1,8,0),(-1,0,0,1,8,0)],[((0,0,0),[12,0,4,8]),((0,0,1),[15,1,7,9]),((0,0,2),[14,2,6,10]),((0,0,3),[13,3,5,11])],[1,1,1,1,2,2,2,2,3,3,3,3,0,0,0,0]⟩
def Dg2_6:Dg:=⟨[((2,0,2,2),1),((4,0,4,2),2),((6,0,6,2),2)],[(1,0,0,1,0,0),(1,0,0,1,0,0),(1,0,0,1,0,0),(1,0,0,1,0,0),(-1,0,0,1,4,0),(-1,0,0,1,4,0),(-1,0,0,1,4,0),(-1,0,0,1,4,0),(1,0,0,1, -4,0),(1,0,0,1, -4,0),(1,0,0,1, -4,0),(1,0,0,1, -4,0),(-1,0,0,1,8,0),(-1,0,0,1,8,0),(-1,0,0,1,8,0),(-1,0,0,1,8,0)],[((0,0,0),[8,4,0,12]),((0,0,1),[9,7,1,15]),((0,0,2),[10,6,2,14]),((0,0,3),[11,5,3,13])],[2,2,2,2,1,1,1,1,0,0,0,0,3,3,3,3]⟩
def Dg2_7:Dg:=⟨[((2,0,2,2),2),((4,0,4,2),2),((6,0,6,2),1)],[(1,0,0,1,0,0),(1,0,0,1,0,0),(1,0,0,1,0,0),(1,0,0,1,0,0),(-1,0,0,1,4,0),(-1,0,0,1,4,0),(-1,0,0,1,4,0),(-1,0,0,1,4,0),(1,0,0,1, -4,0),(1,0,0,1, -4,0),(1,0,0,1, -4,0),(1,0,0,1, -4,0),(-1,0,0,1,8,0),(-1,0,0,1,8,0),(-1,0,0,1,8,0),(-1,0,0,1,8,0)],[((0,0,0),[0,12,8,4]),((0,0,1),[1,15,9,7]),((0,0,2),[2,14,10,6]),((0,0,3),[3,13,11,5])],[0,0,0,0,3,3,3,3,2,2,2,2,1,1,1,1]⟩
def Dg3_1:Dg:=⟨[],[(1,0,0,1,0,0),(1,0,0,1,0,0),(1,0,0,1,0,0),(1,0,0,1,0,0),(1,0,0,1,0,0),(1,0,0,1,0,0),(1,0,0,1,0,0),(1,0,0,1,0,0),(1,0,0,1,0,0),(1,0,0,1,0,0),(1,0,0,1,0,0),(1,0,0,1,0,0),(1,0,0,1,0,0),(1,0,0,1,0,0),(1,0,0,1,0,0),(1,0,0,1,0,0),(1,0,0,1,0,0),(1,0,0,1,0,0),(1,0,0,1,0,0),(1,0,0,1,0,0),(1,0,0,1,0,0),(1,0,0,1,0,0),(1,0,0,1,0,0),(1,0,0,1,0,0),(1,0,0,1,0,0),(1,0,0,1,0,0),(1,0,0,1,0,0),(1,0,0,1,0,0),(1,0,0,1,0,0),(1,0,0,1,0,0),(1,0,0,1,0,0),(1,0,0,1,0,0)],[((0,0,0),[0]),((0,0,1),[1]),((0,0,2),[2]),((0,0,3),[3]),((1,0,0),[4]),((1,0,1),[5]),((1,0,2),[6]),((1,0,3),[7]),((2,0,0),[8]),((2,0,1),[9]),((2,0,2),[10]),((2,0,3),[11]),((3,0,0),[12]),((3,0,1),[13]),((3,0,2),[14]),((3,0,3),[15]),((4,0,0),[16]),((4,0,1),[17]),((4,0,2),[18]),((4,0,3),[19]),((5,0,0),[20]),((5,0,1),[21]),((5,0,2),[22]),((5,0,3),[23]),((6,0,0),[24]),((6,0,1),[25]),((6,0,2),[26]),((6,0,3),[27]),((7,0,0),[28]),((7,0,1),[29]),((7,0,2),[30]),((7,0,3),[31])],[0,0,0,0,0,0,0,0,0,0,0,0,0,0,0,0,0,0,0,0,0,0,0,0,0,0,0,0,0,0,0,0]⟩
def Dg3_2:Dg:=⟨[((8,0,8,2),1)],[(1,0,0,1,0,0),(1,0,0,1,0,0),(1,0,0,1,0,0),(1,0,0,1,0,0),(1,0,0,1,0,0),(1,0,0,1,0,0),(1,0,0,1,0,0),(1,0,0,1,0,0),(1,0,0,1,0,0),(1,0,0,1,0,0),(1,0,0,1,0,0),(1,0,0,1,0,0),(1,0,0,1,0,0),(1,0,0,1,0,0),(1,0,0,1,0,0),(1,0,0,1,0,0),(-1,0,0,1,16,0),(-1,0,0,1,16,0),(-1,0,0,1,16,0),(-1,0,0,1,16,0),(-1,0,0,1,16,0),(-1,0,0,1,16,0),(-1,0,0,1,16,0),(-1,0,0,1,16,0),(-1,0,0,1,16,0),(-1,0,0,1,16,0),(-1,0,0,1,16,0),(-1,0,0,1,16,0),(-1,0,0,1,16,0),(-1,0,0,1,16,0),(-1,0,0,1,16,0),(-1,0,0,1,16,0)],[((0,0,0),[28,0]),((0,0,1),[31,1]),((0,0,2),[30,2]),((0,0,3),[29,3]),((1,0,0),[24,4]),((1,0,1),[27,5]),((1,0,2),[26,6]),((1,0,3),[25,7]),((2,0,0),[20,8]),((2,0,1),[23,9]),((2,0,2),[22,10]),((2,0,3),[21,11]),((3,0,0),[16,12]),((3,0,1),[19,13]),((3,0,2),[18,14]),((3,0,3),[17,15])],[1,1,1,1,1,1,1,1,1,1,1,1,1,1,1,1,0,0,0,0,0,0,0,0,0,0,0,0,0,0,0,0]⟩
def Dg3_3:Dg:=⟨[((8,0,8,2),2)],[(1,0,0,1,0,0),(1,0,0,1,0,0),(1,0,0,1,0,0),(1,0,0,1,0,0),(1,0,0,1,0,0),(1,0,0,1,0,0),(1,0,0,1,0,0),(1,0,0,1,0,0),(1,0,0,1,0,0),(1,0,0,1,0,0),(1,0,0,1,0,0),(1,0,0,1,0,0),(1,0,0,1,0,0),(1,0,0,1,0,0),(1,0,0,1,0,0),(1,0,0,1,0,0),(-1,0,0,1,16,0),(-1,0,0,1,16,0),(-1,0,0,1,16,0),(-1,0,0,1,16,0),(-1,0,0,1,16,0),(-1,0,0,1,16,0),(-1,0,0,1,16,0),(-1,0,0,1,16,0),(-1,0,0,1,16,0),(-1,0,0,1,16,0),(-1,0,0,1,16,0),(-1,0,0,1,16,0),(-1,0,0,1,16,0),(-1,0,0,1,16,0),(-1,0,0,1,16,0),(-1,0,0,1,16,0)],[((0,0,0),[0,28]),((0,0,1),[1,31]),((0,0,2),[2,30]),((0,0,3),[3,29]),((1,0,0),[4,24]),((1,0,1),[5,27]),((1,0,2),[6,26]),((1,0,3),[7,25]),((2,0,0),[8,20]),((2,0,1),[9,23]),((2,0,2),[10,22]),((2,0,3),[11,21]),((3,0,0),[12,16]),((3,0,1),[13,19]),((3,0,2),[14,18]),((3,0,3),[15,17])],[0,0,0,0,0,0,0,0,0,0,0,0,0,0,0,0,1,1,1,1,1,1,1,1,1,1,1,1,1,1,1,1]⟩
def Dg3_4:Dg:=⟨[((4,0,4,2),1),((8,0,8,2),1),((12,0,12,2),2)],[(1,0,0,1,0,0),(1,0,0,1,0,0),(1,0,0,1,0,0),(1,0,0,1,0,0),(1,0,0,1,0,0),(1,0,0,1,0,0),(1,0,0,1,0,0),(1,0,0,1,0,0),(-1,0,0,1,8,0),(-1,0,0,1,8,0),(-1,0,0,1,8,0),(-1,0,0,1,8,0),(-1,0,0,1,8,0),(-1,0,0,1,8,0),(-1,0,0,1,8,0),(-1,0,0,1,8,0),(1,0,0,1, -8,0),(1,0,0,1, -8,0),(1,0,0,1, -8,0),(1,0,0,1, -8,0),(1,0,0,1, -8,0),(1,0,0,1, -8,0),(1,0,0,1, -8,0),(1,0,0,1, -8,0),(-1,0,0,1,16,0),(-1,0,0,1,16,0),(-1,0,0,1,16,0),(-1,0,0,1,16,0),(-1,0,0,1,16,0),(-1,0,0,1,16,0),(-1,0,0,1,16,0),(-1,0,0,1,16,0)],[((0,0,0),[12,16,28,0]),((0,0,1),[15,17,31,1]),((0,0,2),[14,18,30,2]),((0,0,3),[13,19,29,3]),((1,0,0),[8,20,24,4]),((1,0,1),[11,21,27,5]),((1,0,2),[10,22,26,6]),((1,0,3),[9,23,25,7])],[3,3,3,3,3,3,3,3,0,0,0,0,0,0,0,0,1,1,1,1,1,1,1,1,2,2,2,2,2,2,2,2]⟩
def Dg3_5:Dg:=⟨[((4,0,4,2),2),((8,0,8,2),1),((12,0,12,2),1)],[(1,0,0,1,0,0),(1,0,0,1,0,0),(1,0,0,1,0,0),(1,0,0,1,0,0),(1,0,0,1,0,0),(1,0,0,1,0,0),(1,0,0,1,0,0),(1,0,0,1,0,0),(-1,0,0,1,8,0),(-1,0,0,1,8,0),(-1,0,0,1,8,0),(-1,0,0,1,8,0),(-1,0,0,1,8,0),(-1,0,0,1,8,0),(-1,0,0,1,8,0),(-1,0,0,1,8,0),(1,0,0,1, -8,0),(1,0,0,1, -8,0),(1,0,0,1, -8,0),(1,0,0,1, -8,0),(1,0,0,1, -8,0),(1,0,0,1, -8,0),(1,0,0,1, -8,0),(1,0,0,1, -8,0),(-1,0,0,1,16,0),(-1,0,0,1,16,0),(-1,0,0,1,16,0),(-1,0,0,1,16,0),(-1,0,0,1,16,0),(-1,0,0,1,16,0),(-1,0,0,1,16,0),(-1,0,0,1,16,0)],[((0,0,0),[28,0,12,16]),((0,0,1),[31,1,15,17]),((0,0,2),[30,2,14,18]),((0,0,3),[29,3,13,19]),((1,0,0),[24,4,8,20]),((1,0,1),[27,5,11,21]),((1,0,2),[26,6,10,22]),((1,0,3),[25,7,9,23])],[1,1,1,1,1,1,1,1,2,2,2,2,2,2,2,2,3,3,3,3,3,3,3,3,0,0,0,0,0,0,0,0]⟩
def Dg3_6:Dg:=⟨[((4,0,4,2),1),((8,0,8,2),2),((12,0,12,2),2)],[(1,0,0,1,0,0),(1,0,0,1,0,0),(1,0,0,1,0,0),(1,0,0,1,0,0),(1,0,0,1,0,0),(1,0,0,1,0,0),(1,0,0,1,0,0),(1,0,0,1,0,0),(-1,0,0,1,8,0),(-1,0,0,1,8,0),(-1,0,0,1,8,0),(-1,0,0,1,8,0),(-1,0,0,1,8,0),(-1,0,0,1,8,0),(-1,0,0,1,8,0),(-1,0,0,1,8,0),(1,0,0,1, -8,0),(1,0,0,1, -8,0),(1,0,0,1, -8,0),(1,0,0,1, -8,0),(1,0,0,1, -8,0),(1,0,0,1, -8,0),(1,0,0,1, -8,0),(1,0,0,1, -8,0),(-1,0,0,1,16,0),(-1,0,0,1,16,0),(-1,0,0,1,16,0),(-1,0,0,1,16,0),(-1,0,0,1,16,0),(-1,0,0,1,16,0),(-1,0,0,1,16,0),(-1,0,0,1,16,0)],[((0,0,0),[16,12,0,28]),((0,0,1),[17,15,1,31]),((0,0,2),[18,14,2,30]),((0,0,3),[19,13,3,29]),((1,0,0),[20,8,4,24]),((1,0,1),[21,11,5,27]),((1,0,2),[22,10,6,26]),((1,0,3),[23,9,7,25])],[2,2,2,2,2,2,2,2,1,1,1,1,1,1,1,1,0,0,0,0,0,0,0,0,3,3,3,3,3,3,3,3]⟩
def Dg3_7:Dg:=⟨[((4,0,4,2),2),((8,0,8,2),2),((12,0,12,2),1)],[(1,0,0,1,0,0),(1,0,0,1,0,0),(1,0,0,1,0,0),(1,0,0,1,0,0),(1,0,0,1,0,0),(1,0,0,1,0,0),(1,0,0,1,0,0),(1,0,0,1,0,0),(-1,0,0,1,8,0),(-1,0,0,1,8,0),(-1,0,0,1,8,0),(-1,0,0,1,8,0),(-1,0,0,1,8,0),(-1,0,0,1,8,0),(-1,0,0,1,8,0),(-1,0,0,1,8,0),(1,0,0,1, -8,0),(1,0,0,1, -8,0),(1,0,0,1, -8,0),(1,0,0,1, -8,0),(1,0,0,1, -8,0),(1,0,0,1, -8,0),(1,0,0,1, -8,0),(1,0,0,1, -8,0),(-1,0,0,1,16,0),(-1,0,0,1,16,0),(-1,0,0,1,16,0),(-1,0,0,1,16,0),(-1,0,0,1,16,0),(-1,0,0,1,16,0),(-1,0,0,1,16,0),(-1,0,0,1,16,0)],[((0,0,0),[0,28,16,12]),((0,0,1),[1,31,17,15]),((0,0,2),[2,30,18,14]),((0,0,3),[3,29,19,13]),((1,0,0),[4,24,20,8]),((1,0,1),[5,27,21,11]),((1,0,2),[6,26,22,10]),((1,0,3),[7,25,23,9])],[0,0,0,0,0,0,0,0,3,3,3,3,3,3,3,3,2,2,2,2,2,2,2,2,1,1,1,1,1,1,1,1]⟩
def Dg3_8:Dg:=⟨[((2,0,2,2),1),((4,0,4,2),1),((6,0,6,2),2),((8,0,8,2),1),((10,0,10,2),1),((12,0,12,2),2),((14,0,14,2),2)],[(1,0,0,1,0,0),(1,0,0,1,0,0),(1,0,0,1,0,0),(1,0,0,1,0,0),(-1,0,0,1,4,0),(-1,0,0,1,4,0),(-1,0,0,1,4,0),(-1,0,0,1,4,0),(1,0,0,1, -4,0),(1,0,0,1, -4,0),(1,0,0,1, -4,0),(1,0,0,1, -4,0),(-1,0,0,1,8,0),(-1,0,0,1,8,0),(-1,0,0,1,8,0),(-1,0,0,1,8,0),(1,0,0,1, -8,0),(1,0,0,1, -8,0),(1,0,0,1, -8,0),(1,0,0,1, -8,0),(-1,0,0,1,12,0),(-1,0,0,1,12,0),(-1,0,0,1,12,0),(-1,0,0,1,12,0),(1,0,0,1, -12,0),(1,0,0,1, -12,0),(1,0,0,1, -12,0),(1,0,0,1, -12,0),(-1,0,0,1,16,0),(-1,0,0,1,16,0),(-1,0,0,1,16,0),(-1,0,0,1,16,0)],[((0,0,0),[4,24,20,8,12,16,28,0]),((0,0,1),[7,25,23,9,15,17,31,1]),((0,0,2),[6,26,22,10,14,18,30,2]),((0,0,3),[5,27,21,11,13,19,29,3])],[7,7,7,7,0,0,0,0,3,3,3,3,4,4,4,4,5,5,5,5,2,2,2,2,1,1,1,1,6,6,6,6]⟩
def Dg3_9:Dg:=⟨[((2,0,2,2),2),((4,0,4,2),1),((6,0,6,2),1),((8,0,8,2),1),((10,0,10,2),2),((12,0,12,2),2),((14,0,14,2),1)],[(1,0,0,1,0,0),(1,0,0,1,0,0),(1,0,0,1,0,0),(1,0,0,1,0,0),(-1,0,0,1,4,0),(-1,0,0,1,4,0),(-1,0,0,1,4,0),(-1,0,0,1,4,0),(1,0,0,1, -4,0),(1,0,0,1, -4,0),(1,0,0,1, -4,0),(1,0,0,1, -4,0),(-1,0,0,1,8,0),(-1,0,0,1,8,0),(-1,0,0,1,8,0),(-1,0,0,1,8,0),(1,0,0,1, -8,0),(1,0,0,1, -8,0),(1,0,0,1, -8,0),(1,0,0,1, -8,0),(-1,0,0,1,12,0),(-1,0,0,1,12,0),(-1,0,0,1,12,0),(-1,0,0,1,12,0),(1,0,0,1, -12,0),(1,0,0,1, -12,0),(1,0,0,1, -12,0),(1,0,0,1, -12,0),(-1,0,0,1,16,0),(-1,0,0,1,16,0),(-1,0,0,1,16,0),(-1,0,0,1,16,0)],[((0,0,0),[12,16,28,0,4,24,20,8]),((0,0,1),[15,17,31,1,7,25,23,9]),((0,0,2),[14,18,30,2,6,26,22,10]),((0,0,3),[13,19,29,3,5,27,21,11])],[3,3,3,3,4,4,4,4,7,7,7,7,0,0,0,0,1,1,1,1,6,6,6,6,5,5,5,5,2,2,2,2]⟩
def Dg3_10:Dg:=⟨[((2,0,2,2),1),((4,0,4,2),2),((6,0,6,2),2),((8,0,8,2),1),((10,0,10,2),1),((12,0,12,2),1),((14,0,14,2),2)],[(1,0,0,1,0,0),(1,0,0,1,0,0),(1,0,0,1,0,0),(1,0,0,1,0,0),(-1,0,0,1,4,0),(-1,0,0,1,4,0),(-1,0,0,1,4,0),(-1,0,0,1,4,0),(1,0,0,1, -4,0),(1,0,0,1, -4,0),(1,0,0,1, -4,0),(1,0,0,1, -4,0),(-1,0,0,1,8,0),(-1,0,0,1,8,0),(-1,0,0,1,8,0),(-1,0,0,1,8,0),(1,0,0,1, -8,0),(1,0,0,1, -8,0),(1,0,0,1, -8,0),(1,0,0,1, -8,0),(-1,0,0,1,12,0),(-1,0,0,1,12,0),(-1,0,0,1,12,0),(-1,0,0,1,12,0),(1,0,0,1, -12,0),(1,0,0,1, -12,0),(1,0,0,1, -12,0),(1,0,0,1, -12,0),(-1,0,0,1,16,0),(-1,0,0,1,16,0),(-1,0,0,1,16,0),(-1,0,0,1,16,0)],[((0,0,0),[20,8,4,24,28,0,12,16]),((0,0,1),[23,9,7,25,31,1,15,17]),((0,0,2),[22,10,6,26,30,2,14,18]),((0,0,3),[21,11,5,27,29,3,13,19])],[5,5,5,5,2,2,2,2,1,1,1,1,6,6,6,6,7,7,7,7,0,0,0,0,3,3,3,3,4,4,4,4]⟩
def Dg3_11:Dg:=⟨[((2,0,2,2),2),((4,0,4,2),2),((6,0,6,2),1),((8,0,8,2),1),((10,0,10,2),2),((12,0,12,2),1),((14,0,14,2),1)],[(1,0,0,1,0,0),(1,0,0,1,0,0),(1,0,0,1,0,0),(1,0,0,1,0,0),(-1,0,0,1,4,0),(-1,0,0,1,4,0),(-1,0,0,1,4,0),(-1,0,0,1,4,0),(1,0,0,1, -4,0),(1,0,0,1, -4,0),(1,0,0,1, -4,0),(1,0,0,1, -4,0),(-1,0,0,1,8,0),(-1,0,0,1,8,0),(-1,0,0,1,8,0),(-1,0,0,1,8,0),(1,0,0,1, -8,0),(1,0,0,1, -8,0),(1,0,0,1, -8,0),(1,0,0,1, -8,0),(-1,0,0,1,12,0),(-1,0,0,1,12,0),(-1,0,0,1,12,0),(-1,0,0,1,12,0),(1,0,0,1, -12,0),(1,0,0,1, -12,0),(1,0,0,1, -12,0),(1,0,0,1, -12,0),(-1,0,0,1,16,0),(-1,0,0,1,16,0),(-1,0,0,1,16,0),(-1,0,0,1,16,0)],[((0,0,0),[28,0,12,16,20,8,4,24]),((0,0,1),[31,1,15,17,23,9,7,25]),((0,0,2),[30,2,14,18,22,10,6,26]),((0,0,3),[29,3,13,19,21,11,5,27])],[1,1,1,1,6,6,6,6,5,5,5,5,2,2,2,2,3,3,3,3,4,4,4,4,7,7,7,7,0,0,0,0]⟩
def Dg3_12:Dg:=⟨[((2,0,2,2),1),((4,0,4,2),1),((6,0,6,2),2),((8,0,8,2),2),((10,0,10,2),1),((12,0,12,2),2),((14,0,14,2),2)],[(1,0,0,1,0,0),(1,0,0,1,0,0),(1,0,0,1,0,0),(1,0,0,1,0,0),(-1,0,0,1,4,0),(-1,0,0,1,4,0),(-1,0,0,1,4,0),(-1,0,0,1,4,0),(1,0,0,1, -4,0),(1,0,0,1, -4,0),(1,0,0,1, -4,0),(1,0,0,1, -4,0),(-1,0,0,1,8,0),(-1,0,0,1,8,0),(-1,0,0,1,8,0),(-1,0,0,1,8,0),(1,0,0,1, -8,0),(1,0,0,1, -8,0),(1,0,0,1, -8,0),(1,0,0,1, -8,0),(-1,0,0,1,12,0),(-1,0,0,1,12,0),(-1,0,0,1,12,0),(-1,0,0,1,12,0),(1,0,0,1, -12,0),(1,0,0,1, -12,0),(1,0,0,1, -12,0),(1,0,0,1, -12,0),(-1,0,0,1,16,0),(-1,0,0,1,16,0),(-1,0,0,1,16,0),(-1,0,0,1,16,0)],[((0,0,0),[24,4,8,20,16,12,0,28]),((0,0,1),[25,7,9,23,17,15,1,31]),((0,0,2),[26,6,10,22,18,14,2,30]),((0,0,3),[27,5,11,21,19,13,3,29])],[6,6,6,6,1,1,1,1,2,2,2,2,5,5,5,5,4,4,4,4,3,3,3,3,0,0,0,0,7,7,7,7]⟩
def Dg3_13:Dg:=⟨[((2,0,2,2),2),((4,0,4,2),1),((6,0,6,2),1),((8,0,8,2),2),((10,0,10,2),2),((12,0,12,2),2),((14,0,14,2),1)],[(1,0,0,1,0,0),(1,0,0,1,0,0),(1,0,0,1,0,0),(1,0,0,1,0,0),(-1,0,0,1,4,0),(-1,0,0,1,4,0),(-1,0,0,1,4,0),(-1,0,0,1,4,0),(1,0,0,1, -4,0),(1,0,0,1, -4,0),(1,0,0,1, -4,0),(1,0,0,1, -4,0),(-1,0,0,1,8,0),(-1,0,0,1,8,0),(-1,0,0,1,8,0),(-1,0,0,1,8,0),(1,0,0,1, -8,0),(1,0,0,1, -8,0),(1,0,0,1, -8,0),(1,0,0,1, -8,0),(-1,0,0,1,12,0),(-1,0,0,1,12,0),(-1,0,0,1,12,0),(-1,0,0,1,12,0),(1,0,0,1, -12,0),(1,0,0,1, -12,0),(1,0,0,1, -12,0),(1,0,0,1, -12,0),(-1,0,0,1,16,0),(-1,0,0,1,16,0),(-1,0,0,1,16,0),(-1,0,0,1,16,0)],[((0,0,0),[16,12,0,28,24,4,8,20]),((0,0,1),[17,15,1,31,25,7,9,23]),((0,0,2),[18,14,2,30,26,6,10,22]),((0,0,3),[19,13,3,29,27,5,11,21])],[2,2,2,2,5,5,5,5,6,6,6,6,1,1,1,1,0,0,0,0,7,7,7,7,4,4,4,4,3,3,3,3]⟩
def Dg3_14:Dg:=⟨[((2,0,2,2),1),((4,0,4,2),2),((6,0,6,2),2),((8,0,8,2),2),((10,0,10,2),1),((12,0,12,2),1),((14,0,14,2),2)],[(1,0,0,1,0,0),(1,0,0,1,0,0),(1,0,0,1,0,0),(1,0,0,1,0,0),(-1,0,0,1,4,0),(-1,0,0,1,4,0),(-1,0,0,1,4,0),(-1,0,0,1,4,0),(1,0,0,1, -4,0),(1,0,0,1, -4,0),(1,0,0,1, -4,0),(1,0,0,1, -4,0),(-1,0,0,1,8,0),(-1,0,0,1,8,0),(-1,0,0,1,8,0),(-1,0,0,1,8,0),(1,0,0,1, -8,0),(1,0,0,1, -8,0),(1,0,0,1, -8,0),(1,0,0,1, -8,0),(-1,0,0,1,12,0),(-1,0,0,1,12,0),(-1,0,0,1,12,0),(-1,0,0,1,12,0),(1,0,0,1, -12,0),(1,0,0,1, -12,0),(1,0,0,1, -12,0),(1,0,0,1, -12,0),(-1,0,0,1,16,0),(-1,0,0,1,16,0),(-1,0,0,1,16,0),(-1,0,0,1,16,0)],[((0,0,0),[8,20,24,4,0,28,16,12]),((0,0,1),[9,23,25,7,1,31,17,15]),((0,0,2),[10,22,26,6,2,30,18,14]),((0,0,3),[11,21,27,5,3,29,19,13])],[4,4,4,4,3,3,3,3,0,0,0,0,7,7,7,7,6,6,6,6,1,1,1,1,2,2,2,2,5,5,5,5]⟩
def Dg3_15:Dg:=⟨[((2,0,2,2),2),((4,0,4,2),2),((6,0,6,2),1),((8,0,8,2),2),((10,0,10,2),2),((12,0,12,2),1),((14,0,14,2),1)],[(1,0,0,1,0,0),(1,0,0,1,0,0),(1,0,0,1,0,0),(1,0,0,1,0,0),(-1,0,0,1,4,0),(-1,0,0,1,4,0),(-1,0,0,1,4,0),(-1,0,0,1,4,0),(1,0,0,1, -4,0),(1,0,0,1, -4,0),(1,0,0,1, -4,0),(1,0,0,1, -4,0),(-1,0,0,1,8,0),(-1,0,0,1,8,0),(-1,0,0,1,8,0),(-1,0,0,1,8,0),(1,0,0,1, -8,0),(1,0,0,1, -8,0),(1,0,0,1, -8,0),(1,0,0,1, -8,0),(-1,0,0,1,12,0),(-1,0,0,1,12,0),(-1,0,0,1,12,0),(-1,0,0,1,12,0),(1,0,0,1, -12,0),(1,0,0,1, -12,0),(1,0,0,1, -12,0),(1,0,0,1, -12,0),(-1,0,0,1,16,0),(-1,0,0,1,16,0),(-1,0,0,1,16,0),(-1,0,0,1,16,0)],[((0,0,0),[0,28,16,12,8,20,24,4]),((0,0,1),[1,31,17,15,9,23,25,7]),((0,0,2),[2,30,18,14,10,22,26,6]),((0,0,3),[3,29,19,13,11,21,27,5])],[0,0,0,0,7,7,7,7,4,4,4,4,3,3,3,3,2,2,2,2,5,5,5,5,6,6,6,6,1,1,1,1]⟩
theorem lg0:ty (zW 1) 1 1=Lg0:=by decide +kernel
theorem jg0:gJs Lg0=Jg0:=by decide +kernel
theorem sg0:StripD Lg0:=okW_strip jg0 (by decide +kernel)
theorem wg0:WOk 1 Lg0:=⟨γ,γ,lg0,sg0,by rw [jg0];decide⟩
theorem lg1:ty (zW 2) 2 1=Lg1:=by decide +kernel
theorem jg1:gJs Lg1=Jg1:=by decide +kernel
theorem sg1:StripD Lg1:=okW_strip jg1 (by decide +kernel)
theorem wg1:WOk 2 Lg1:=⟨γ,γ,lg1,sg1,by rw [jg1];decide⟩
theorem lg2:ty (zW 4) 4 1=Lg2:=by decide +kernel
theorem jg2:gJs Lg2=Jg2:=by decide +kernel
theorem sg2:StripD Lg2:=okW_strip jg2 (by decide +kernel)
theorem wg2:WOk 4 Lg2:=⟨γ,γ,lg2,sg2,by rw [jg2];decide⟩
theorem lg3:ty (zW 8) 8 1=Lg3:=by decide +kernel
theorem jg3:gJs Lg3=Jg3:=by decide +kernel
theorem sg3:StripD Lg3:=okW_strip jg3 (by decide +kernel)
theorem wg3:WOk 8 Lg3:=⟨γ,γ,lg3,sg3,by rw [jg3];decide⟩
theorem gg0_1:GoodD Lg0 Dg0_1:=okG_good jg0 sg0.nd (by decide +kernel)
theorem gg1_1:GoodD Lg1 Dg1_1:=okG_good jg1 sg1.nd (by decide +kernel)
theorem gg1_2:GoodD Lg1 Dg1_2:=okG_good jg1 sg1.nd (by decide +kernel)
theorem gg1_3:GoodD Lg1 Dg1_3:=okG_good jg1 sg1.nd (by decide +kernel)
theorem gg2_1:GoodD Lg2 Dg2_1:=okG_good jg2 sg2.nd (by decide +kernel)
theorem gg2_2:GoodD Lg2 Dg2_2:=okG_good jg2 sg2.nd (by decide +kernel)
theorem gg2_3:GoodD Lg2 Dg2_3:=okG_good jg2 sg2.nd (by decide +kernel)
theorem gg2_4:GoodD Lg2 Dg2_4:=okG_good jg2 sg2.nd (by decide +kernel)
theorem gg2_5:GoodD Lg2 Dg2_5:=okG_good jg2 sg2.nd (by decide +kernel)
theorem gg2_6:GoodD Lg2 Dg2_6:=okG_good jg2 sg2.nd (by decide +kernel)
theorem gg2_7:GoodD Lg2 Dg2_7:=okG_good jg2 sg2.nd (by decide +kernel)
theorem gg3_1:GoodD Lg3 Dg3_1:=okG_good jg3 sg3.nd (by decide +kernel)
theorem gg3_2:GoodD Lg3 Dg3_2:=okG_good jg3 sg3.nd (by decide +kernel)
theorem gg3_3:GoodD Lg3 Dg3_3:=okG_good jg3 sg3.nd (by decide +kernel)
theorem gg3_4:GoodD Lg3 Dg3_4:=okG_good jg3 sg3.nd (by decide +kernel)
theorem gg3_5:GoodD Lg3 Dg3_5:=okG_good jg3 sg3.nd (by decide +kernel)
theorem gg3_6:GoodD Lg3 Dg3_6:=okG_good jg3 sg3.nd (by decide +kernel)
theorem gg3_7:GoodD Lg3 Dg3_7:=okG_good jg3 sg3.nd (by decide +kernel)
theorem gg3_8:GoodD Lg3 Dg3_8:=okG_good jg3 sg3.nd (by decide +kernel)
theorem gg3_9:GoodD Lg3 Dg3_9:=okG_good jg3 sg3.nd (by decide +kernel)
theorem gg3_10:GoodD Lg3 Dg3_10:=okG_good jg3 sg3.nd (by decide +kernel)
theorem gg3_11:GoodD Lg3 Dg3_11:=okG_good jg3 sg3.nd (by decide +kernel)
theorem gg3_12:GoodD Lg3 Dg3_12:=okG_good jg3 sg3.nd (by decide +kernel)
theorem gg3_13:GoodD Lg3 Dg3_13:=okG_good jg3 sg3.nd (by decide +kernel)
theorem gg3_14:GoodD Lg3 Dg3_14:=okG_good jg3 sg3.nd (by decide +kernel)
theorem gg3_15:GoodD Lg3 Dg3_15:=okG_good jg3 sg3.nd (by decide +kernel)
theorem tg1_2:StepD Lg1 Dg1_1 2 false Dg1_2:=okS_step jg1 sg1.nd (by decide +kernel)
theorem tg1_3:StepD Lg1 Dg1_1 2 true Dg1_3:=okS_step jg1 sg1.nd (by decide +kernel)
theorem tg2_2:StepD Lg2 Dg2_1 4 false Dg2_2:=okS_step jg2 sg2.nd (by decide +kernel)
theorem tg2_3:StepD Lg2 Dg2_1 4 true Dg2_3:=okS_step jg2 sg2.nd (by decide +kernel)
theorem tg2_4:StepD Lg2 Dg2_2 2 false Dg2_4:=okS_step jg2 sg2.nd (by decide +kernel)
theorem tg2_5:StepD Lg2 Dg2_2 2 true Dg2_5:=okS_step jg2 sg2.nd (by decide +kernel)
theorem tg2_6:StepD Lg2 Dg2_3 2 false Dg2_6:=okS_step jg2 sg2.nd (by decide +kernel)
theorem tg2_7:StepD Lg2 Dg2_3 2 true Dg2_7:=okS_step jg2 sg2.nd (by decide +kernel)
theorem tg3_2:StepD Lg3 Dg3_1 8 false Dg3_2:=okS_step jg3 sg3.nd (by decide +kernel)
theorem tg3_3:StepD Lg3 Dg3_1 8 true Dg3_3:=okS_step jg3 sg3.nd (by decide +kernel)
theorem tg3_4:StepD Lg3 Dg3_2 4 false Dg3_4:=okS_step jg3 sg3.nd (by decide +kernel)
theorem tg3_5:StepD Lg3 Dg3_2 4 true Dg3_5:=okS_step jg3 sg3.nd (by decide +kernel)
theorem tg3_6:StepD Lg3 Dg3_3 4 false Dg3_6:=okS_step jg3 sg3.nd (by decide +kernel)
theorem tg3_7:StepD Lg3 Dg3_3 4 true Dg3_7:=okS_step jg3 sg3.nd (by decide +kernel)
theorem tg3_8:StepD Lg3 Dg3_4 2 false Dg3_8:=okS_step jg3 sg3.nd (by decide +kernel)
theorem tg3_9:StepD Lg3 Dg3_4 2 true Dg3_9:=okS_step jg3 sg3.nd (by decide +kernel)
theorem tg3_10:StepD Lg3 Dg3_5 2 false Dg3_10:=okS_step jg3 sg3.nd (by decide +kernel)
theorem tg3_11:StepD Lg3 Dg3_5 2 true Dg3_11:=okS_step jg3 sg3.nd (by decide +kernel)
theorem tg3_12:StepD Lg3 Dg3_6 2 false Dg3_12:=okS_step jg3 sg3.nd (by decide +kernel)
theorem tg3_13:StepD Lg3 Dg3_6 2 true Dg3_13:=okS_step jg3 sg3.nd (by decide +kernel)
theorem tg3_14:StepD Lg3 Dg3_7 2 false Dg3_14:=okS_step jg3 sg3.nd (by decide +kernel)
theorem tg3_15:StepD Lg3 Dg3_7 2 true Dg3_15:=okS_step jg3 sg3.nd (by decide +kernel)
def tL:Nat→List T3
 | 0=>Lg0
 | 1=>Lg1
 | 2=>Lg2
 | _=>Lg3
def tD:Nat→Nat→Dg
 | 0,_=>Dg0_1
 | 1,1=>Dg1_1
 | 1,2=>Dg1_2
 | 1,_=>Dg1_3
 | 2,1=>Dg2_1
 | 2,2=>Dg2_2
 | 2,3=>Dg2_3
 | 2,4=>Dg2_4
 | 2,5=>Dg2_5
 | 2,6=>Dg2_6
 | 2,_=>Dg2_7
 | _,1=>Dg3_1
 | _,2=>Dg3_2
 | _,3=>Dg3_3
 | _,4=>Dg3_4
 | _,5=>Dg3_5
 | _,6=>Dg3_6
 | _,7=>Dg3_7
 | _,8=>Dg3_8
 | _,9=>Dg3_9
 | _,10=>Dg3_10
 | _,11=>Dg3_11
 | _,12=>Dg3_12
 | _,13=>Dg3_13
 | _,14=>Dg3_14
 | _,_=>Dg3_15
theorem wok_all (n:Nat) (h:n≤3):WOk (2 ^ n) (tL n):=by
 have:n=0∨n=1∨n=2∨n=3:=γ;rcases this with rfl | rfl | rfl | rfl
 ·exact wg0
 ·exact wg1
 ·exact wg2
 ·exact wg3
theorem good_all (n c:Nat) (h:n≤3) (h1:1≤c) (h2:c<2 ^ (n+1)):GoodD (tL n) (tD n c):=by
 have:n=0∨n=1∨n=2∨n=3:=γ;rcases this with rfl | rfl | rfl | rfl
 ·have:c=1:=γ;subst this;exact gg0_1
 ·have:c=1∨c=2∨c=3:=γ;rcases this with rfl | rfl | rfl
  ·exact gg1_1
  ·exact gg1_2
  ·exact gg1_3
 ·have:c=1∨c=2∨c=3∨c=4∨c=5∨c=6∨c=7:=γ;rcases this with rfl | rfl | rfl | rfl | rfl | rfl | rfl
  ·exact gg2_1
  ·exact gg2_2
  ·exact gg2_3
  ·exact gg2_4
  ·exact gg2_5
  ·exact gg2_6
  ·exact gg2_7
 ·have:c=1∨c=2∨c=3∨c=4∨c=5∨c=6∨c=7∨c=8∨c=9∨c=10∨c=11∨c=12∨c=13∨c=14∨c=15:=γ;rcases this with rfl | rfl | rfl | rfl | rfl | rfl | rfl | rfl | rfl | rfl | rfl | rfl | rfl | rfl | rfl
  ·exact gg3_1
  ·exact gg3_2
  ·exact gg3_3
  ·exact gg3_4
  ·exact gg3_5
  ·exact gg3_6
  ·exact gg3_7
  ·exact gg3_8
  ·exact gg3_9
  ·exact gg3_10
  ·exact gg3_11
  ·exact gg3_12
  ·exact gg3_13
  ·exact gg3_14
  ·exact gg3_15
theorem step_all (n i c:Nat) (b:Bool) (h:n≤3) (hi:i<n) (h1:2 ^ i≤c) (h2:c<2 ^ (i+1)):StepD (tL n) (tD n c) (2 ^ (n - i)) b (tD n (2*c+b.toNat)):=by
 have:(n=1∧i=0)∨(n=2∧i=0)∨(n=2∧i=1)∨(n=3∧i=0)∨(n=3∧i=1)∨(n=3∧i=2):=γ;rcases this with ⟨rfl,rfl⟩ | ⟨rfl,rfl⟩ | ⟨rfl,rfl⟩ | ⟨rfl,rfl⟩ | ⟨rfl,rfl⟩ | ⟨rfl,rfl⟩
 ·have:c=1:=γ;subst this
  cases b
  ·exact tg1_2
  ·exact tg1_3
 ·have:c=1:=γ;subst this
  cases b
  ·exact tg2_2
  ·exact tg2_3
 ·have:c=2∨c=3:=γ;rcases this with rfl | rfl <;> cases b
  ·exact tg2_4
  ·exact tg2_5
  ·exact tg2_6
  ·exact tg2_7
 ·have:c=1:=γ;subst this
  cases b
  ·exact tg3_2
  ·exact tg3_3
 ·have:c=2∨c=3:=γ;rcases this with rfl | rfl <;> cases b
  ·exact tg3_4
  ·exact tg3_5
  ·exact tg3_6
  ·exact tg3_7
 ·have:c=4∨c=5∨c=6∨c=7:=γ;rcases this with rfl | rfl | rfl | rfl <;> cases b
  ·exact tg3_8
  ·exact tg3_9
  ·exact tg3_10
  ·exact tg3_11
  ·exact tg3_12
  ·exact tg3_13
  ·exact tg3_14
  ·exact tg3_15
def gLS (L:List T3) (d:Dg):List (List Nat):=d.T.map fun s=>(List.range L.length).filter fun k=>decide (gP L d k=s.1)
theorem gLS_no (L:List T3) (d:Dg) (c:Int) (g:Nat→Nat→Bool) (h:Bool):(gLS L d).any (cvL (gMw L d c) g h)=false:=by
 rw [List.any_eq_false];intro l hl;obtain ⟨s,hs,rfl⟩:=List.mem_map.1 hl
 have a:∀ x,x∈(List.range L.length).filter (fun k=>decide (gP L d k=s.1))→gMw L d c x=decide (sideN 0 c s.1.1 s.1.2.1 s.1.2.2=1):=fun x f=>by
  have e:gP L d x=s.1:=of_decide_eq_true (List.mem_filter.1 f).2;unfold gMw onS pt;unfold gP at e;rw [e]
 unfold cvL;rw [Bool.not_eq_true,List.any_eq_false];intro x f;unfold cvI;rw [a x f]
 cases hd:decide (sideN 0 c s.1.1 s.1.2.1 s.1.2.2=1) with
 | false=>simp
 | true =>
  rw [Bool.true_and,Bool.not_eq_true,List.any_eq_false];intro b hb;rw [a b hb,hd];simp
theorem Gn_gLS {d:Dg} (e:T3):Gn (pls L (gM d) L.length) (pls L (gM d) L.length).length e=((List.range L.length).filter fun k=>decide (gP L d k=e)).map fun k:Nat=>(k:Int):=by
 rw [Gn_eq,Yj];congr 1
 refine List.filter_congr fun k a=>?_;rw [pls_getD (List.mem_range.1 a)];rfl
theorem hand29 {d:Dg} (p:GoodD L d) (K:StripD L) (c:Int) (O:Bool) (P w:World) (t:Option Addr) (k A B z C:Nat) (pa:Option Addr) (pc v D:Nat) (J:HandAt P w t k A B z pa v L (gK d.cs) d.cs.length (gM d) (gH d)) (W:YRow w D L.length (gMw L d c)) :
  Rt 29 #[.agg #[.slice t L.length k,.map (some A),.map (some B),.slice (Az z) L.length C,.slice pa L.length pc,.func (.func 90) #[] #[.pointer (Az v)],I 0,I c,I 1,.bool O,I 0,I 0,I 0,I 0,.slice (Az D) L.length L.length]] w (.bool false):=by
 have X:=K.le;have N:=K.pos;have n:=Yj L (gM d) L.length;have hT:=p.sl;have U:d.T.length≤100:=by simpa [gS] using hT
 have:=covered_any (.slice t L.length k) (.map (some A)) (.map (some B)) (.slice (Az z) L.length C) (.slice pa L.length pc) (I 0) (I c) (I 1) (I 0) (I 0) (I 0) (I 0) v D L.length O (gMw L d c) (fun x y=>decide (gH d y<gH d x)) (gLS L d) w γ (by simp [gLS];omega) W (fun l hl=>by
  obtain ⟨s,hs,rfl⟩:=List.mem_map.1 hl;refine ⟨Nt (List.length_filter_le _ _) ω,fun x q=>by simpa using (List.mem_filter.1 q).1⟩) (fun V E=>?_) (fun V x y E q Z=>Gj V v L.length x y (gH d) ((J.2.2.2.kept E).hg) q Z γ)
 ·rw [gLS_no] at this;exact this
 ·have hp:=piled_any V t (Az z) pa L.length k L.length C pc (some A) (some B) (pls L (gM d) L.length) (J.2.2.1.kept E) γ γ;rw [n] at hp;refine hp.mono ?_;rintro e w' ⟨g,m,c0,S,rfl,o⟩
  have H:S.map (fun s=>s.1)=d.T.map fun s=>s.1:=by
   refine eq_of_up (r:=ltT) Jr Xq _ _ (List.pairwise_map.2 o.ord) (List.pairwise_map.2 p.hp.1) fun x=>?_
   have q:x∈d.T.map (fun s=>s.1)↔∃ j,j<L.length∧gP L d j=x:=by
    constructor
    ·intro h;obtain ⟨s,hs,rfl⟩:=List.mem_map.1 h;obtain ⟨j,f⟩:=List.exists_mem_of_ne_nil _ (p.hp.2.1 s hs).1;exact ⟨j,(p.hp.2.1 s hs).2.2 j f⟩
    ·rintro ⟨j,f,rfl⟩;obtain ⟨s,hs,G⟩:=p.hp.2.2 j f;exact List.mem_map.2 ⟨s,hs,((p.hp.2.1 s hs).2.2 j G).2.symm⟩
   rw [q];constructor
   ·intro h;obtain ⟨s,hs,rfl⟩:=List.mem_map.1 h;obtain ⟨j,f⟩:=List.exists_mem_of_ne_nil _ (o.ne s hs);rw [Gn_gLS] at f;obtain ⟨i,hi,_⟩:=List.mem_map.1 f;obtain ⟨a,b⟩:=List.mem_filter.1 hi;exact ⟨i,by simpa using a,of_decide_eq_true b⟩
   ·rintro ⟨j,f,rfl⟩;obtain ⟨s,hs,e⟩:=o.all j (by rw [n];exact f);rw [pls_getD f] at e;exact List.mem_map.2 ⟨s,hs,e⟩
  refine ⟨g,c0,S.map fun s=>(s.2.1,s.2.2,(List.range L.length).filter fun k=>decide (gP L d k=s.1)), ?_, ?_,⟨fun i hi=>?_,fun s hs=>?_⟩,o.b⟩
  ·rw [List.length_map,o.len]
  ·have:(S.map (fun s=>s.1)).map (fun e=>(List.range L.length).filter fun k=>decide (gP L d k=e))=gLS L d:=by
    rw [H,List.map_map];rfl
   rw [← this,List.map_map,List.map_map];rfl
  ·have F:i<S.length:=by simpa using hi
   have:=o.row i F;rw [Gn_gLS,List.length_map] at this;simpa using this
  ·obtain ⟨u,Y,rfl⟩:=List.mem_map.1 hs;have M:=o.own u Y;rw [Gn_gLS,List.length_map,List.map_map] at M;obtain ⟨a,Q,e,R⟩:=own_numR M
   cases e;exact R
theorem hand75 {d:Dg} (g:StripD L) (c:Int) (s:Bool) (u w:World) (b:Option Addr) (k h l o n:Nat) (pa:Option Addr) (pc m f:Nat) (t:HandAt u w b k h l o pa m L (gK d.cs) d.cs.length (gM d) (gH d)) (r:YRow w f L.length (gMw L d c)) (hs:Steps w) :
  Cl 75 #[.agg #[.slice b L.length k,.map (some h),.map (some l),.slice (Az o) L.length n,.slice pa L.length pc,.func (.func 90) #[] #[.pointer (Az m)],I 0,I c,I 1,.bool s,I 0,I 0,I 0,I 0,.slice (Az f) L.length L.length]] w fun e w'=>∃ v,e=.returned v∧w'.ownsRow w.heap.size 142 5 v (smL (gMw L d c) (gJl L) L.length).length (flatJ (smL (gMw L d c) (gJl L) L.length))∧Bl w w':=by
 have x:=g.le;have a:=g.pos;have hg:f<w.heap.size:=bk (r 0 a).1;refine seams_any (.slice b L.length k) (.map (some h)) (.map (some l)) (.slice (Az o) L.length n) (.slice pa L.length pc) (.func (.func 90) #[] #[.pointer (Az m)]) (I 0) (I c) (I 1) (.bool s) (I 0) (I 0) (I 0) (I 0) f L.length (gMw L d c) (gJl L) w γ r hg (jl3 g) (fun i hi j p=>by unfold gJl at p;rw [if_pos hi] at p;exact jl_pos p) (fun V i q hi=>?_);have hb:=g.bd _ (Lm hi);refine (Uv V k h l i b L L[i].1 L[i].2.1 L[i].2.2 (hs.kept q) ((t.pile n pc).tr.kept q) hi rfl γ hb).mono ?_;rintro e w' ⟨v,rfl,y,hb⟩;refine ⟨v,rfl, ?_,hb⟩
 have:gJl L i=jl L (L[i].1,L[i].2.1,L[i].2.2) i 3:=by
  unfold gJl;rw [if_pos hi,Qz L i hi]
 rw [this];exact own_low y γ
theorem hand30 {d p:Dg} (m:StripD L) (c:Int) (l:Bool) (hD:StepD L d c l p) (o w:World) (a:Option Addr) (k e f i h:Nat) (pa:Option Addr) (pc g j:Nat) (n:HandAt o w a k e f i pa g L (gK d.cs) d.cs.length (gM d) (gH d)) (q:YRow w j L.length (gMw L d c)) (hs:Steps w) :
  Rt 30 #[.agg #[.slice a L.length k,.map (some e),.map (some f),.slice (Az i) L.length h,.slice pa L.length pc,.func (.func 90) #[] #[.pointer (Az g)],I 0,I c,I 1,.bool l,I 0,I 0,I 0,I 0,.slice (Az j) L.length L.length]] w (.bool false):=by
 have r:=m.le;have h3:=smL_len (mw:=gMw L d c) (jl3 m) L.length;have:=unfolds_any (.slice a L.length k) (.map (some e)) (.map (some f)) (.slice (Az i) L.length h) (.slice pa L.length pc) (.func (.func 90) #[] #[.pointer (Az g)]) (I 0) (I c) (I 1) (.bool l) (I 0) (I 0) (I 0) (I 0) (.slice (Az j) L.length L.length) (smL (gMw L d c) (gJl L) L.length) (gKd d) w γ (fun V b=>hand75 m c l o V a k e f i h pa pc g j (n.kept b) (q.kept b) (hs.kept b)) (fun V A B C E b=>kind_any V a L.length k e f (gKd d) A B C E ((n.pile h pc).kl.kept b));rw [hD.un] at this;exact this
theorem take_dg {d R:Dg} (K:WOk W L) (B:GoodD L d) (c:Int) (u:Bool) (P:lineB 0 c=true) (hD:StepD L d c u R) {N:Option Addr} (F G H J:Nat) (w:World) (O:StA W L d a0 c0 mp N w) (hs:Steps w) :
  Cl 12 #[.agg #[I (W:Int),I 1,.slice a0 W F,.slice c0 d.cs.length G,.slice mp L.length H,.slice N (gS L d).length J],.agg #[I 0,I c,I 1,.bool u,I 0,I 0,I 0,I 0]] w fun e w'=>TakTo w w' L (gK d.cs) d.cs.length (gM d) (gH d) (gMw L d c) 0 c 1 u 0 0 0 0 e:=by
 have C:=K.st;have U:=C.le;have f:=C.pos
 refine take_ok (W:Int) 1 a0 c0 mp N W F d.cs.length G L.length H (gS L d).length J 0 c 1 u 0 0 0 0 L (gK d.cs) d.cs.length (gM d) (gH d) (whL (gMw L d c) L.length) (gMw L d c) w f
  (fun V a=>clash_dg K B F G H J V (O.kept a) (hs.kept a))
  (fun V a=>of_dg K B F G H J V (O.kept a) (hs.kept a))
  (fun l V m k z A t o pa pc n _ a g=>hand25 l V m k z A t o pa pc n 0 c 1 u 0 0 0 0 L _ _ _ _ _ g (hs.kept a) f P B.mo.1 (Or.inl rfl) γ)
  (fun l V m k z A t o pa pc n _ a g=>hand26 l V m k z A t o pa pc n 0 c 1 u 0 0 0 L _ _ _ _ _ g (hs.kept a) γ P B.mo.1)
  (fun l V m k z A t o pa pc n base v _ a g Y=>hand27 l V m k z A t o pa pc n 0 c 1 u 0 0 0 0 L _ _ _ _ _ v base (whL (gMw L d c) L.length) (gCr L d c) (gMw L d c) g (hs.kept a) f γ C.nd C.bd B.mo.1 Y (Nt (whL_le _ _) γ) (fun j T=>by
   have:=Lm T;simpa using (List.mem_filter.1 this).1) (fun i hi e Q=>?_) hD.mw)
  (fun V D b a E=>(hasBool_any D L.length (gMw L d c) b V γ E).mono (fun e w' h=>by rw [hD.yes b] at h;exact h))
  (fun l V m k z A t o pa pc n D _ a g E=>hand29 B C c u l V m k z A t o pa pc n D g E)
  (fun l V m k z A t o pa pc n D _ a g E=>hand30 C c u hD l V m k z A t o pa pc n D g E (hs.kept a))
 have hb:=C.bd _ (Lm hi);have X:=(B.mo.1 i hi).1;obtain ⟨p,q,r,s⟩:=e;have M:=edge_bdM (x:=L[i].1) (y:=L[i].2.1) (k:=L[i].2.2) hb Q;obtain ⟨g1,g2⟩:=bro_bd (e:=(p,q,r,s)) X M;refine ⟨?_,g1,g2,hD.hcr i hi _ Q⟩;dsimp only;omega
theorem SRowF.grown {w':World} {S:List (T3×List T3)} (h:SRowF w base a S) (hg:w.grownBy w' (some b)) (hb:b<base):SRowF w' base a S:=fun i hi=>by
 obtain ⟨g,d,f,e,h0,h1,h2,h3,h4,h5,h6⟩:=h i hi;have c:some g≠some b:=fun q=>by cases q;omega
 exact ⟨g,d,f,e,h0,hg.cell h1 c,hg.cell h2 c,hg.cell h3 c,hg.cell h4 c,h5.grown hg (fun q e=>by have:=h6 q e;omega),h6⟩
theorem flatJ_gK (cs:List C5):flatJ cs=(gK cs).map (Value.int .i64):=by simp [flatJ,gK,List.map_flatMap]
def S5D (W:Nat) (L:List T3) (d:Dg) (base:Nat) (a1:Option Addr) (c1:Nat) (b1:Option Addr) (c2:Nat) (m1:Option Addr) (_:Nat) (p1:Option Addr) (_:Nat) (V:World):Prop :=
 V.ownsRow base 3 1 (.slice a1 W c1) W ((zW W).map (Value.int .i64))∧V.ownsRow base 49 5 (.slice b1 d.cs.length c2) d.cs.length ((gK d.cs).map (Value.int .i64))∧(∃ g,m1=Az g∧base≤g∧MRow V g L.length (gM d))∧SRowF V base p1 (gS L d)
theorem S5D.kept {d:Dg} {a:World} {b:Option Addr} (h:S5D W L d base a1 c1 b1 c2 b c3 c c4 V) (hb:Bl V a):S5D W L d base a1 c1 b1 c2 b c3 c c4 a:=by
 obtain ⟨h1,h2,⟨g,e,h3,h4⟩,h5⟩:=h;exact ⟨Qj h1 hb,Qj h2 hb,⟨g,e,h3,h4.kept hb⟩,h5.kept hb⟩
theorem S5D.grown {d:Dg} {a:World} {f:Option Addr} (h:S5D W L d base a1 c1 b1 c2 c c3 f c4 V) (hg:V.grownBy a (some b)) (hb:b<base):S5D W L d base a1 c1 b1 c2 c c3 f c4 a:=by
 obtain ⟨h1,h2,⟨g,e,h3,h4⟩,h5⟩:=h;exact ⟨own_grown h1 hg (fun q hq k=>by have:=Qw h1 q hq;cases k;omega),own_grown h2 hg (fun q hq k=>by have:=Qw h2 q hq;cases k;omega),⟨g,e,h3,h4.grown hg (fun k=>by cases k;omega)⟩,h5.grown hg hb⟩
theorem own_none {e size c:Nat} {f:List Value} (h:w.ownsRow base e size (.slice a n c) n f):a=none∨∃ p off,a=Ad p off:=by
 rcases h.2 with ⟨e,_⟩ | ⟨g,b,d,e,_⟩
 ·cases e;exact Or.inl rfl
 ·cases e;exact Or.inr ⟨g,0,rfl⟩
theorem S5D.sta {d:Dg} {f:Option Addr} (p:1≤W) (h:S5D W L d base a1 c1 b1 c2 c c3 f c4 V):StA W L d a1 b1 c f V:=by
 obtain ⟨h1,h2,⟨g,e,h3,h4⟩,h5⟩:=h;obtain ⟨a,m,j,i⟩:=own_rowf h1 (by rw [zW_len];omega);obtain ⟨b,n,k,l⟩:=own_rowf h2 (gK_len _)
 cases j
 cases k;refine ⟨i.row, ?_,l.row,own_none h2,⟨g,e,h4⟩,h5.row⟩;obtain ⟨q,o,e,_⟩:=i.row 0 (by rw [zW_len];omega);exact ⟨q,o,e⟩
theorem jrow_row {b:Option Addr} {l:List C5} (h:JRow w b l):Row w b (gK l):=fun i hi=>by
 (try simp only [At,I,Fn,Az,Ad] at hi);rw [gK_len] at hi
 have hq:i / 5<l.length:=γ;obtain ⟨g,e,k0,k1,k2,k3,f⟩:=h (i / 5) hq;refine ⟨g,0,e, ?_⟩;have d:∀ j,(flatJ l)[j]?=((gK l)[j]?).map (Value.int .i64):=fun j=>by (try simp only [At,I,Fn,Az,Ad]);rw [flatJ_gK,List.getElem?_map]
 obtain ⟨f0,f1,f2,f3,f4⟩:=Gd l (i / 5) hq;have c:i<(gK l).length:=by (try simp only [At,I,Fn,Az,Ad]);rw [gK_len];omega
 have a:∀ (r:Nat) (x:Int),i=i / 5*5+r→(flatJ l)[i / 5*5+r]?=some (I x)→w.cell? ⟨g,i / 5*5+r,none⟩=some (I x)→w.cell? ⟨g,0+i,none⟩=some (I (gK l)[i]):=fun r x e1 e2 e3=>by
  (try simp only [I] at e2 e3);rw [← e1] at e2 e3
  (try simp only [At,I,Fn,Az,Ad] at e2);rw [d,List.getElem?_eq_getElem c,Option.map_some] at e2
  (try simp only [I]);rw [Nat.zero_add,e3,← e2]
 have h5:i % 5=0∨i % 5=1∨i % 5=2∨i % 5=3∨i % 5=4:=γ;rcases h5 with q | q | q | q | q
 ·exact a 0 _ γ f0 k0
 ·exact a 1 _ γ f1 k1
 ·exact a 2 _ γ f2 k2
 ·exact a 3 _ γ f3 k3
 ·exact a 4 _ γ f4 f
def S1D (W:Nat) (d:Dg) (aa:Option Addr) (_:Nat) (bb:Option Addr) (_:Nat) (V:World):Prop:=Row V aa (zW W)∧(∃ b off,aa=Ad b off)∧Row V bb (gK d.cs)∧(bb=none∨∃ p off,bb=Ad p off)
theorem hand31 {d A:Dg} (G:WOk W L) (Q:GoodD L d) (c:Int) (l:Bool) (hD:StepD L d c l A) (P w:World) (r:Option Addr) (k x z n t:Nat) (pa:Option Addr) (pc s u:Nat) (O:HandAt P w r k x z n pa s L (gK d.cs) d.cs.length (gM d) (gH d)) (Z:YRow w u L.length (gMw L d c)) (hs:Steps w) (a0 c0:Option Addr) (B D:Nat) (hz:Row w a0 (zW W)) (ha:∃ b off,a0=Ad b off) (hk:Row w c0 (gK d.cs)) (K:c0=none∨∃ p off,c0=Ad p off) :
  Cl 31 #[.agg #[.slice r L.length k,.map (some x),.map (some z),.slice (Az n) L.length t,.slice pa L.length pc,.func (.func 90) #[] #[.pointer (Az s)],I 0,I c,I 1,.bool l,I 0,I 0,I 0,I 0,.slice (Az u) L.length L.length],.agg #[I (W:Int),I 1,.slice a0 W B,.slice c0 d.cs.length D]] w fun e w'=>∃ aa cx bb cy,e=.returned (.agg #[I (W:Int),I 1,.slice aa W cx,.slice bb A.cs.length cy])∧S1D W A aa cx bb cy w'∧Bl w w':=by
 have E:=G.st;have a6:=E.le;have h3:=smL_len (mw:=gMw L d c) (jl3 E) L.length;have a2:=Q.cn;have a7:=G.w1;have ab:=G.w8;have H:a0=none∨∃ p off,a0=Ad p off:=Or.inr ha;refine (creased_any (.slice r L.length k) (.map (some x)) (.map (some z)) (.slice (Az n) L.length t) (.slice pa L.length pc) (.func (.func 90) #[] #[.pointer (Az s)]) (I 0) (I c) (I 1) (.bool l) (I 0) (I 0) (I 0) (I 0) (.slice (Az u) L.length L.length) (.slice a0 W B) (.slice c0 d.cs.length D) (W:Int) 1 (zW W) (gKs d l) d.cs (smL (gMw L d c) (gJl L) L.length) w γ (fun V f=>?_) (fun V f=>hand75 E c l P V r k x z n t pa pc s u (O.kept f) (Z.kept f) (hs.kept f)) (fun V j f hj=>?_) (fun V base c8 U N ho hl=>sortCrease_any V base c8 U N ho hl)).mono ?_
 ·have:=copy_own (W:Int) 1 a0 c0 B D d.cs.length (zW W) (gK d.cs) V (hz.kept f) (hk.kept f) (gK_len _) (by rw [zW_len];omega) γ H K;rw [zW_len] at this;refine this.mono ?_;rintro e w' ⟨a,c1,b,c2,rfl,h1,h2,hb⟩;exact ⟨_,_,by rw [zW_len],h1,by rw [flatJ_gK];exact h2,hb⟩
 ·obtain ⟨q,hq,J⟩:=List.mem_flatMap.1 hj;have M:q<L.length:=by simpa using hq
  have i:=(List.mem_filter.1 J).1;unfold gJl at i;rw [if_pos M] at i;obtain ⟨p1,p2⟩:=jl_pos i;obtain ⟨m,R⟩:=Int.eq_ofNat_of_zero_le p1;obtain ⟨⟨e0,e1,e2,e3⟩,tz⟩:=j;dsimp only at R p2;subst R;have v:m<L.length:=γ;have:=kindS_any (.slice r L.length k) (.map (some x)) (.map (some z)) (.slice (Az n) L.length t) (.func (.func 90) #[] #[.pointer (Az s)]) (.slice (Az u) L.length L.length) pa L.length pc 0 c 1 0 0 0 0 l e0 e1 e2 e3 (m:Int) (tov (gM d m)) V (fun T F=>turnedOver_any T _ _ _ _ n L.length t m (gM d) ((O.2.1.kept f).kept F) v γ (Q.mo.1 m v).1);exact this
 ·rintro e w' ⟨va,b,X,N,rfl,h1,h2,h4,h5,h6,hb⟩;have e:=sort_one h2 h4 hD.pm hD.up;subst e;rw [zW_len] at h1;obtain ⟨a,C,Y,y⟩:=own_rowf h1 (by rw [zW_len];omega);subst Y;have hl:(crL (gKs d l) d.cs (smL (gMw L d c) (gJl L) L.length) (smL (gMw L d c) (gJl L) L.length).length).length=A.cs.length:=hD.pm.length_eq;refine ⟨a,C,b,X,by rw [hl],⟨y.row, ?_,jrow_row h5, ?_⟩,hb⟩
  ·obtain ⟨q,o,e,_⟩:=y.row 0 (by rw [zW_len];omega);exact ⟨q,o,e⟩
  ·rcases h6 with h | ⟨g,h,_⟩
   ·exact Or.inl h
   ·exact Or.inr ⟨g,0,h⟩
theorem MRow.like {g:Nat} {a:Nat→M6} (h:MRow w g n M) (e:∀ i,i<n→M i=a i):MRow w g n a:=fun i hi=>by rw [← e i hi];exact h i hi
theorem hand33 {d z:Dg} (s:StripD L) (F:GoodD L d) (c:Int) (v:Bool) (J:lineB 0 c=true) (hD:StepD L d c v z) (D w:World) (p:Option Addr) (k x y n m:Nat) (pa:Option Addr) (pc q r:Nat) (C:HandAt D w p k x y n pa q L (gK d.cs) d.cs.length (gM d) (gH d)) (H:YRow w r L.length (gMw L d c)) (_hs:Steps w) :
  Cl 33 #[.agg #[.slice p L.length k,.map (some x),.map (some y),.slice (Az n) L.length m,.slice pa L.length pc,.func (.func 90) #[] #[.pointer (Az q)],I 0,I c,I 1,.bool v,I 0,I 0,I 0,I 0,.slice (Az r) L.length L.length]] w fun e w'=>∃ g m,e=.returned (.slice (Az g) L.length m)∧MRow w' g L.length (gM z)∧Bl w w':=by
 have K:=s.le;refine (mirrored_any (.slice p L.length k) (.map (some x)) (.map (some y)) (.slice pa L.length pc) (.func (.func 90) #[] #[.pointer (Az q)]) (I 1) (.bool v) (I 0) (I 0) (I 0) (I 0) n m r L.length 0 c (gMw L d c) (gM d) (fun i=>gRf (gM d i) c) w s.pos γ H (fun V A=>cloneM_any V n L.length m (gM d) (C.2.1.kept A) s.pos γ) (fun V i A hi _=>?_)).mono ?_
 ·have B:=(F.mo.1 i hi).1;have u:=hD.mf i hi;unfold gRf;generalize gM d i=mm at B u ⊢;obtain ⟨a,b,f,h,j,l⟩:=mm;obtain ⟨_,b1,b2⟩:=map_smM (show mapM ((aft (a,b,f,h,j,l) (mir 0 0)).1,(aft (a,b,f,h,j,l) (mir 0 0)).2.1,(aft (a,b,f,h,j,l) (mir 0 0)).2.2.1,(aft (a,b,f,h,j,l) (mir 0 0)).2.2.2.1,(aft (a,b,f,h,j,l) (mir 0 0)).2.2.2.2.1,(aft (a,b,f,h,j,l) (mir 0 0)).2.2.2.2.2)=true from u)
  have t : -1000000≤c∧c≤1000000:=by
   have:=of_decide_eq_true J;exact ⟨this.2.2.1,this.2.2.2.1⟩
  have:=reflected_any a b f h j l (mA 0) (mB 0) (mB 0) (mD 0) (mE 0 0) (mF 0 0) (aft (a,b,f,h,j,l) (mir 0 0)).1 (aft (a,b,f,h,j,l) (mir 0 0)).2.1 (aft (a,b,f,h,j,l) (mir 0 0)).2.2.1 (aft (a,b,f,h,j,l) (mir 0 0)).2.2.2.1 (aft (a,b,f,h,j,l) (mir 0 0)).2.2.2.2.1 (aft (a,b,f,h,j,l) (mir 0 0)).2.2.2.2.2 0 c 0 0 V ⟨γ,γ⟩ t ⟨γ,γ⟩ ⟨γ,γ⟩ (fun o _=>Kf 0 0 o ψ ψ) (fun o _=>After_yes a b f h j l (mA 0) (mB 0) (mB 0) (mD 0) (mE 0 0) (mF 0 0) o B ψ u);have e1:stpX 0 c=2*c:=by simp [stpX]
  have e2:stpY 0 c=0:=by simp [stpY]
  rw [e1,e2] at this;exact this
 ·rintro e w' ⟨g,E,rfl,G,_,hb⟩;exact ⟨g,E,rfl,G.like fun i hi=>(hD.mp i hi).symm,hb⟩
theorem rank_eq {d:Dg} (b:GoodD L d) (c:Int) (a:Bool) {x y:Nat} (e:x<L.length) (f:y<L.length):(if gMw L d c x=gMw L d c y then (if gMw L d c x=true then decide (gH d x<gH d y) else decide (gH d y<gH d x)) else gMw L d c x == a)=decide (gH2 L d c a y<gH2 L d c a x):=by
 have h1:=b.hb x e;have h2:=b.hb y f;unfold gH2
 cases gMw L d c x <;> cases gMw L d c y <;> cases a <;> simp <;> omega
theorem heap_dis {pl:Nat→T3} {A:List (T3×List Nat)} (k:Heap n pl h A) {i j:Nat} (hi:i<n) (c:j<n) (e:pl i=pl j) (a:i≠j):h i≠h j:=by
 obtain ⟨s,hs,h1⟩:=k.2.2 i hi;have h2:j∈s.2:=(heap_all k hs j).2 ⟨c,e.symm.trans ((heap_all k hs i).1 h1).2⟩;obtain ⟨p,hp,rfl⟩:=List.mem_iff_getElem.1 h1;obtain ⟨q,hq,rfl⟩:=List.mem_iff_getElem.1 h2;have b:=List.pairwise_iff_getElem.1 (k.2.1 s hs).2.1;rcases Nat.lt_trichotomy p q with l | l | l
 ·have:=b p q hp hq l;omega
 ·subst l;exact absurd rfl a
 ·have:=b q p hq hp l;omega
theorem ranks_sort {d:Dg} (z:StripD L) (v:GoodD L d) (c:Int) (a:Bool) (s w:World) (n:Option Addr) (k q r o t:Nat) (pa:Option Addr) (pc i j:Nat) (m:HandAt s w n k q r o pa i L (gK d.cs) d.cs.length (gM d) (gH d)) (p:YRow w j L.length (gMw L d c)) (_hs:Steps w) (bx:Nat) (u:HB15 w bx (.slice n L.length k) (.map (some q)) (.map (some r)) (.slice (Az o) L.length t) (.slice pa L.length pc) (.func (.func 90) #[] #[.pointer (Az i)]) (I 0) (I c) (I 1) (.bool a) (I 0) (I 0) (I 0) (I 0) (.slice (Az j) L.length L.length)):SortsN w L.length (.func (.func 83) #[] #[.pointer (Az bx)]) (gH2 L d c a):=by
 have A:=z.le
 have h:∀ (W:World) (x y:Nat),Bl w W→x<L.length→y<L.length→Rt 83 #[I (x:Int),I (y:Int),.pointer (Az bx)] W (.bool (decide (gH2 L d c a y<gH2 L d c a x))):=fun W x y b e f=>by
  obtain ⟨_,_,_,_,_,B,_,_,_,C,_,_,_,_,l⟩:=u.kept b;rw [← rank_eq v c a e f];exact ranks_asks bx i j L.length x y a _ _ _ _ W e f γ l B C ((p.kept b) x e).1 ((p.kept b) y f).1 (fun V g=>Gj V i L.length x y (gH d) (((m.2.2.2.kept b).kept g).hg) e f γ) (fun V g=>Gj V i L.length y x (gH d) (((m.2.2.2.kept b).kept g).hg) f e γ)
 refine sortsN_of w L.length _ (gH2 L d c a) (fun W b x y e f=>?_);refine rankCompare bx (x:Int) (y:Int) (decide (gH2 L d c a x<gH2 L d c a y)) (decide (gH2 L d c a y<gH2 L d c a x)) _ W ?_ (fun V g=>h V y x (Qc b g) f e) (fun V g=>h V x y (Qc b g) e f);simp [cmp3]
theorem hand13 {d f:Dg} (D:WOk W L) (X:GoodD L d) (q:GoodD L f) (c:Int) (s:Bool) (hc:lineB 0 c=true) (hD:StepD L d c s f) (v w:World) (m:Option Addr) (k n o A x:Nat) (pa:Option Addr) (pc z B:Nat) (N:HandAt v w m k n o A pa z L (gK d.cs) d.cs.length (gM d) (gH d)) (Z:YRow w B L.length (gMw L d c)) (hs:Steps w) (a0 c0:Option Addr) (Q R:Nat) (hz:Row w a0 (zW W)) (ha:∃ b off,a0=Ad b off) (hk:Row w c0 (gK d.cs)) (a2:c0=none∨∃ p off,c0=Ad p off) :
  Cl 13 #[.agg #[.slice m L.length k,.map (some n),.map (some o),.slice (Az A) L.length x,.slice pa L.length pc,.func (.func 90) #[] #[.pointer (Az z)],I 0,I c,I 1,.bool s,I 0,I 0,I 0,I 0,.slice (Az B) L.length L.length],.agg #[I (W:Int),I 1,.slice a0 W Q,.slice c0 d.cs.length R]] w fun e w'=>LayTo w w' (W:Int) 1 W f.cs.length L.length (gS L f).length (S5D W L f) e:=by
 have E:=D.st;have af:=E.le;have y:=E.pos;have a7:=D.w1;have ag:=D.w8;have F:=Yj L (gM f) L.length
 refine layF_ok (.slice m L.length k) (.map (some n)) (.map (some o)) (.slice (Az A) L.length x) (.slice pa L.length pc) (.func (.func 90) #[] #[.pointer (Az z)]) (I 0) (I c) (I 1) (.bool s) (I 0) (I 0) (I 0) (I 0) (.slice (Az B) L.length L.length) (W:Int) 1 a0 c0 W Q d.cs.length R f.cs.length L.length (gS L f).length (gM f) (pls L (gM f) L.length) w y γ (S1D W f) (fun m k n o V=>∃ v base,PK v V base n o (.slice m L.length k) L (gix L) (kf (gK f.cs) f.cs.length)) (S5D W L f)
  (fun V O H K J M h hb=>⟨h.1.kept hb,h.2.1,h.2.2.1.kept hb,h.2.2.2⟩)
  (fun V O m k n o h hb=>by
   obtain ⟨v,base,h⟩:=h;exact ⟨v,base,h.kept hb⟩)
  (fun V O base a1 c1 b1 c2 m1 c3 p1 c4 h hb=>h.kept hb)
  (fun V O base b a1 c1 b1 c2 m1 c3 p1 c4 h hg hb=>h.grown hg hb)
  (fun V l=>hand31 D X c s hD v V m k n o A x pa pc z B (N.kept l) (Z.kept l) (hs.kept l) a0 c0 Q R (hz.kept l) ha (hk.kept l) a2)
  (fun V H K J M l h=>?_)
  (fun V l=>hand33 E X c s hc hD v V m k n o A x pa pc z B (N.kept l) (Z.kept l) (hs.kept l))
  (fun V m k n o g x l h Y=>?_)
  (fun V=>?_)
  (fun V H K J M P k2 ac ae g2 U a8 ab bx l h1 h2 Y hT hB=>?_)
  (fun V base a1 c1 b1 c2 m1 c3 p1 c4 l h=>clash_dg D q c1 c2 c3 c4 V (h.sta a7) (hs.kept l))
 ·refine (lay_dg D f.cs H J K M V h.1 h.2.1 h.2.2.1 (hs.kept l) q.cr q.cn).mono ?_;rintro e w' ⟨m,k,base,n,o,rfl,C⟩;exact ⟨m,k,n,o,rfl,⟨V,base,C⟩,C.2.2.2.2⟩
 ·obtain ⟨V1,base,C⟩:=h;refine (spread_gen V k n o g x m L (kdn (gK f.cs) f.cs.length) (gM f) (hs.kept l) C.pa C.kl γ E.bd Y).mono ?_;rintro e w' (⟨_,_,_,_,_,_,_,_,_,_,_,_,hn,_⟩ | ⟨pa,pc,rfl,_,hT,hb⟩)
  ·exact absurd q.mo hn
  ·exact ⟨pa,pc,rfl,hT,hb⟩
 ·refine (ranks_any (.slice m L.length k) (.map (some n)) (.map (some o)) (.slice (Az A) L.length x) (.slice pa L.length pc) (.func (.func 90) #[] #[.pointer (Az z)]) (I 0) (I c) (I 1) (.bool s) (I 0) (I 0) (I 0) (I 0) (.slice (Az B) L.length L.length) V).mono ?_;rintro e w' ⟨rfl,rfl⟩;exact ⟨V.heap.size,rfl,by simp [HB15,go_sem],Qb (Qe _)⟩
 ·obtain ⟨V1,base,C⟩:=h2
  have G:=state_own V (W:Int) 1 H J K M f.cs.length (zW W) (gK f.cs) P a8 k2 ac ae g2 U ab (gM f) L (pls L (gM f) L.length) (.func (.func 83) #[] #[.pointer (Az bx)]) (gH2 L d c s) h1.1 h1.2.2.1 (gK_len _) (by rw [zW_len];omega) (by have:=q.cn;omega) (Or.inr h1.2.1) h1.2.2.2 F C.pa.1 hT Y y γ (fun W' r=>ranks_sort E X c s v W' m k n o A x pa pc z B (N.kept (Qc l r)) (Z.kept (Qc l r)) (hs.kept (Qc l r)) bx (hB.kept r)) (fun i j hi hj e a6=>by
   rw [F] at hi hj;rw [pls_getD hi,pls_getD hj] at e;exact heap_dis hD.hp hi hj e a6)
  rw [zW_len] at G;refine G.mono ?_;rintro e w' ⟨a,c1,b,c2,g,c3,t,u,Hp,rfl,q1,q2,q3,q4,q5,q6,hb⟩;have e1:Hp=f.T:=heap_uni (heap_place (pl':=gP L f) (h':=gH2 L d c s) q5 (fun i hi=>pls_getD hi) (fun i hi=>rfl)) hD.hp;subst e1;rw [zW_len] at q1;refine ⟨a,c1,b,c2,Az g,c3,t,u, ?_,⟨q1,q2,⟨g,rfl,q4,q3⟩,q6⟩,hb⟩;simp only [gS,List.length_map,zW_len]
theorem do_dg {d a:Dg} (r:WOk W L) (q:GoodD L d) (m:GoodD L a) (c:Int) (i:Bool) (s:lineB 0 c=true) (hD:StepD L d c i a) {p:Option Addr} (j l n o:Nat) (w:World) (g:StA W L d a0 c0 mp p w) (hs:Steps w) :
  Cl 7 #[.agg #[I (W:Int),I 1,.slice a0 W j,.slice c0 d.cs.length l,.slice mp L.length n,.slice p (gS L d).length o],.agg #[I 0,I c,I 1,.bool i,I 0,I 0,I 0,I 0]] w fun e w'=>LayTo w w' (W:Int) 1 W a.cs.length L.length (gS L a).length (S5D W L a) e :=
 do_ok (W:Int) 1 a0 c0 mp p W j d.cs.length l L.length n (gS L d).length o a.cs.length L.length (gS L a).length 0 c 1 i 0 0 0 0 L (gK d.cs) d.cs.length (gM d) (gH d) (gMw L d c) w (S5D W L a)
  (fun _V _F _base _b _a1 _c1 _b1 _c2 _G _c3 _H _c4 h hg hb=>h.grown hg hb)
  (fun V f=>take_dg r q c i s hD j l n o V (g.kept f) (hs.kept f))
  (fun u V v k D E A y pa pc x B _ f t C=>hand13 r q m c i s hD u V v k D E A y pa pc x B t C (hs.kept f) a0 c0 j l (g.z.kept f) g.za (g.k.kept f) g.ka)
theorem row_zero9 (w:World):Row (w.alloc (.cells #[I 0] 3)) (Az w.heap.size) [0]:=fun i hi=>by
 have:i=0:=by simpa using hi
 subst this;exact ⟨_,_,rfl,δ⟩
theorem flat_step (f:Int) (a:Option Addr) (i u N l:Nat) (w:World)
  (q:Nat→Option Addr→Nat→Option Addr→Nat→Option Addr→Nat→Option Addr→Nat→World→Prop)
  (A:∀ (V z:World) (base b:Nat) (a1:Option Addr) (c1:Nat) (b1:Option Addr) (c2:Nat) (c:Option Addr) (c3:Nat) (d:Option Addr) (c4:Nat),q base a1 c1 b1 c2 c c3 d c4 V→V.grownBy z (some b)→b<base→q base a1 c1 b1 c2 c c3 d c4 z)
  (r:∀ (V:World) (g:Nat),Bl w V→Row V (Az g) [0]→Cl 11 #[.agg #[I f,I 1,.slice a i u,SN],.slice (Az g) 1 1] V fun e w'=>∃ a1 c1 b1 c2 c c3 d c4,e=.returned (.tuple #[.agg #[I f,I 1,.slice a1 i c1,.slice b1 0 c2,.slice c N c3,.slice d l c4],I 0])∧q V.heap.size a1 c1 b1 c2 c c3 d c4 w'∧Bl V w') :
  Cl 4 #[.agg #[I f,I 1,.slice a i u,SN]] w fun e w'=>LayTo w w' f 1 i 0 N l q e:=by
 have C6:=Hd A;have t:=Hd r;clear A r;go_enter Tryz.func4,Tryz.ntmps4;go_upto_region 1 with fail
 refine Qi (fun m hW0=>?_);have o:Bl w m:=by rw [hW0];exact Qb β1
 have J:At m w.heap.size 0 (I f):=ν;have P:At m w.heap.size 1 (I 1):=ν;have Q:At m w.heap.size 2 (.slice a i u):=ν;have R:At m w.heap.size 3 SN:=ν;have X:=Bt J
 have HX:Hid (BX6 m (w.heap.size+1) (I 0) (I 0) SN SN SN SN):=by
  have:BX6 m (w.heap.size+1) (I 0) (I 0) SN SN SN SN:=by rw [hW0];simp [BX6,go_sem]
  exact this
 clear hW0;have L:=Hd (bk HX.out.1.1);go_wp2_with (go_at_call 11;refine (t.out _ _ (by with_reducible exact Qb o) (row_zero9 _)).mono ?_;rintro e p ⟨a1,c1,b1,c2,c,c3,d,c4,rfl,x,n⟩;have j:Hid (q (m.heap.size+1) a1 c1 b1 c2 c c3 d c4 p∧BX6 p (w.heap.size+1) (I 0) (I 0) SN SN SN SN∧Bl w p):=(by rw [World.size_alloc] at x;exact ⟨x,(HX.out.kept β1).kept n,Qc (Qb o) n⟩);clear x n J P Q R X o;obtain ⟨⟨r0,r1,r2,r3,M,O⟩,T,y1,y2,y3,U,W⟩:=j.out.2.1;have H:=bk r0;dsimp only at H)
 have y:=setBX6_grown p (w.heap.size+1) (I f) (I 1) (.slice a1 i c1) (.slice b1 0 c2) (.slice c N c3) (.slice d l c4);have K:=(j.out.2.1.put (g0:=I f) (g1:=I 1) (g2:=.slice a1 i c1) (g3:=.slice b1 0 c2) (g4:=.slice c N c3) (g5:=.slice d l c4)).1;have Y:=L.out
 have s:LayTo w (setBX6 p (w.heap.size+1) (I f) (I 1) (.slice a1 i c1) (.slice b1 0 c2) (.slice c N c3) (.slice d l c4)) f 1 i 0 N l q (.returned (.tuple #[.agg #[I f,I 1,.slice a1 i c1,.slice b1 0 c2,.slice c N c3,.slice d l c4],I 0])) :=
  ⟨m.heap.size+1,a1,c1,b1,c2,c,c3,d,c4,rfl,C6.out _ _ _ _ _ _ _ _ _ _ _ _ j.out.1 y γ,γ,j.out.2.2.grown y j.out.2.2.size (fun k h=>by cases h;omega)⟩
 obtain ⟨B,C,D,E,F,G⟩:=K;clear r0 r1 r2 r3 M O T y1 y2 y3 U W H;refine bodyPost_ret (w:=setBX6 p (w.heap.size+1) (I f) (I 1) (.slice a1 i c1) (.slice b1 0 c2) (.slice c N c3) (.slice d l c4)) (v:=.tuple #[.agg #[I f,I 1,.slice a1 i c1,.slice b1 0 c2,.slice c N c3,.slice d l c4],I 0]) ?_ rfl s;generalize setBX6 p (w.heap.size+1) (I f) (I 1) (.slice a1 i c1) (.slice b1 0 c2) (.slice c N c3) (.slice d l c4)=wz at B C D E F G ⊢;simp [results,Tryz.results4,go_sem,B,C,D,E,F,G]
theorem part_zero {cr:E4→Bool} (c:StripD L) (o:∀ e,cr e=true) {part:Nat→Int} (hp:PartsOk cr L part):topP part L.length=0:=by
 have h0:=partsOk_le hp 0 c.pos
 have h:∀ i,i<L.length→part i=part 0:=fun i hi=>by
  obtain ⟨m,hr⟩:=c.jo
  obtain ⟨j,d,e,q⟩:=(hr i hi).2 (fun u=>∃ j,∃ d:j<L.length,L[j]=u∧part j=part 0) ⟨0,c.pos,rfl,rfl⟩ (fun a b n hb f=>by
   obtain ⟨j,d,rfl,q⟩:=n;obtain ⟨k,l,rfl⟩:=List.mem_iff_getElem.1 hb;obtain ⟨g,e,p,r⟩:=f;exact ⟨k,l,rfl,(hp.2.1 j k d l ⟨g,e,p,r,o e⟩).trans q⟩)
  rw [← Jj c.nd d hi e];exact q
 obtain ⟨i,hi,e⟩:=topP_at (part:=part) c.pos;rw [← e,h i hi];omega
theorem flat_dg {d:Dg} (f:WOk W L) (A:GoodD L d) (C:d.cs=[]) (q:∀ i,i<L.length→gH d i=0∧gM d i=idM) (a:Option Addr) (m:Nat) (w:World) (hr:w.ownsRow 0 3 1 (.slice a W m) W (f15 W)) (hs:Steps w) :
  Cl 4 #[.agg #[I (W:Int),I 1,.slice a W m,SN]] w fun e w'=>LayTo w w' (W:Int) 1 W 0 L.length (gS L d).length (S5D W L d) e:=by
 have o:=f.st;have F:=f.w1;obtain ⟨P,y,z,s⟩:=own_rowf (zs:=zW W) hr (by rw [zW_len];omega)
 cases z;obtain ⟨b,off,e,_⟩:=s.row 0 (by rw [zW_len];omega);subst e;refine flat_step (W:Int) _ W m L.length (gS L d).length w (S5D W L d) (fun V O base b a1 c1 b1 c2 Q c3 R c4 h hg hb=>h.grown hg hb) (fun V g p hg=>?_);have l:=lay_any W 1 b off m 0 0 1 none (Az g) (zW W) [] [0] V (s.row.kept p) ⟨f.w1,f.w8⟩ ⟨γ,γ⟩ (by rw [zW_len];omega) (by simp [maskB,zW]) (fun i hi=>by simp at hi) rfl γ (Or.inl rfl) (hs.kept p) (by rw [f.e];exact o.jo) (fun i hi=>by omega) hg;rw [f.e,zW_len] at l;have c:Cons (kdn [] 0) L (fun _=>idM):=⟨rfl,fun i j _ _ e _ _ _=>rfl⟩;refine l.mono ?_;rintro e w' (⟨M,part,B,hp,hb,h⟩ | ⟨D,_⟩)
 ·have E:=part_zero o (fun e=>by simp [kdn]) hp;rcases h with ⟨h,_⟩ | ⟨_,h,_⟩ | ⟨_,_,v,rfl,a1,c1,b1,c2,g1,c3,t,u,x,ev,r,G,H,J,K,N,U⟩
  ·rw [E] at h;exact absurd rfl h
  ·exact absurd ξ h
  ·cases ev;have k:∀ i,i<L.length→M i=gM d i:=fun i hi=>(cons_one o.jo o.nd B c i hi).trans (q i hi).2.symm
   have e1:x=d.T:=heap_uni (heap_place (pl':=gP L d) (h':=gH d) K (fun i hi=>by
    show (pls L M L.length).getD i (0,0,0)=_
    rw [pls_getD hi,k i hi];rfl) (fun i hi=>by
    rw [(q i hi).1];unfold hgt
    cases hh:(lbs part L.length).getD i 0 with
    | zero=>rfl
    | succ n=>rfl)) A.hp
   subst e1;rw [zW_len] at r;refine ⟨a1,c1,b1,c2,Az g1,c3,t,u, ?_,⟨r, ?_,⟨g1,rfl,J,H.like k⟩,N⟩,hb⟩
   ·simp only [gS,List.length_map,zW_len];rfl
   ·rw [C];exact G
 ·exact absurd ⟨_,c⟩ D
def cdP (pk:Nat→Int):Nat→Nat
 | 0=>1
 | i+1=>2*cdP pk i+(pk i).toNat
theorem cdP_bd (pk:Nat→Int) (n:Nat) (h:∀ i,i<n→pk i=0∨pk i=1):∀ i,i≤n→2 ^ i≤cdP pk i∧cdP pk i<2 ^ (i+1)
 | 0,_=>by simp [cdP]
 | i+1,hi=>by
  obtain ⟨h1,h2⟩:=cdP_bd pk n h i γ;have e1:2 ^ (i+1)=2 ^ i*2:=Nat.pow_succ ..;have e2:2 ^ (i+1+1)=2 ^ (i+1)*2:=Nat.pow_succ ..;unfold cdP;rcases h i γ with k | k <;> (rw [k];simp;omega)
def fsP (pk:Nat→Int) (n:Nat):List Int:=(List.range n).map fun j=>1+pk j
def okE (L:List T3) (d:Dg) (wd:List Int) (W:Nat):Bool:=decide (d.cs.length=wd.length) && decide (wd.length≤7) && (List.range wd.length).all (fun j=>decide ((gK d.cs).getD (j*5) 0=2*((j:Int)+1)) && decide ((gK d.cs).getD (j*5+4) 0=wd.getD j 0)) && decide ((gS L d).length=4) && decide (thk (gS L d) 4=W)
theorem wordR_ok (pk:Nat→Int) (n:Nat) (h:∀ i,i<n→pk i=0∨pk i=1) (c:n≤3):Dr.fmay (fsP pk n)=0∧Dr.wordR (fsP pk n)=Dr.opn (fsP pk n):=by
 have:Dr.fmay (fsP pk n)=0:=by
  refine Dr.fmay_ok.2 ⟨by simp [fsP];omega, ?_⟩;rw [Dr.allK,List.all_eq_true];intro x b;obtain ⟨j,a,rfl⟩:=List.mem_map.1 b;rcases h j (by simpa using a) with k | k <;> (rw [k];rfl)
 exact ⟨this,by rw [Dr.wordR,if_pos this]⟩
theorem end0 (pk:Nat→Int) (_h:∀ i,i<0→pk i=0∨pk i=1):okE (tL 0) (tD 0 (cdP pk 0)) (Dr.opn (fsP pk 0)) 1=true:=by
 have e1:cdP pk 0=1:=by simp [cdP]
 have e2:fsP pk 0=[]:=by simp [fsP]
 rw [e1,e2];decide +kernel
theorem end1 (pk:Nat→Int) (h:∀ i,i<1→pk i=0∨pk i=1):okE (tL 1) (tD 1 (cdP pk 1)) (Dr.opn (fsP pk 1)) 2=true:=by
 have h0:=h 0 γ;rcases h0 with h0 | h0
 ·have e1:cdP pk 1=2:=by simp [cdP,h0]
  have e2:fsP pk 1=[1]:=by simp [fsP,List.range_succ,h0]
  rw [e1,e2];decide +kernel
 ·have e1:cdP pk 1=3:=by simp [cdP,h0]
  have e2:fsP pk 1=[2]:=by simp [fsP,List.range_succ,h0]
  rw [e1,e2];decide +kernel
theorem end2 (pk:Nat→Int) (h:∀ i,i<2→pk i=0∨pk i=1):okE (tL 2) (tD 2 (cdP pk 2)) (Dr.opn (fsP pk 2)) 4=true:=by
 have h0:=h 0 γ;have h1:=h 1 γ;rcases h0 with h0 | h0
 ·rcases h1 with h1 | h1
  ·have e1:cdP pk 2=4:=by simp [cdP,h0,h1]
   have e2:fsP pk 2=[1,1]:=by simp [fsP,List.range_succ,h0,h1]
   rw [e1,e2];decide +kernel
  ·have e1:cdP pk 2=5:=by simp [cdP,h0,h1]
   have e2:fsP pk 2=[1,2]:=by simp [fsP,List.range_succ,h0,h1]
   rw [e1,e2];decide +kernel
 ·rcases h1 with h1 | h1
  ·have e1:cdP pk 2=6:=by simp [cdP,h0,h1]
   have e2:fsP pk 2=[2,1]:=by simp [fsP,List.range_succ,h0,h1]
   rw [e1,e2];decide +kernel
  ·have e1:cdP pk 2=7:=by simp [cdP,h0,h1]
   have e2:fsP pk 2=[2,2]:=by simp [fsP,List.range_succ,h0,h1]
   rw [e1,e2];decide +kernel
theorem end3 (pk:Nat→Int) (h:∀ i,i<3→pk i=0∨pk i=1):okE (tL 3) (tD 3 (cdP pk 3)) (Dr.opn (fsP pk 3)) 8=true:=by
 have h0:=h 0 γ;have h1:=h 1 γ;have h2:=h 2 γ;rcases h0 with h0 | h0
 ·rcases h1 with h1 | h1
  ·rcases h2 with h2 | h2
   ·have e1:cdP pk 3=8:=by simp [cdP,h0,h1,h2]
    have e2:fsP pk 3=[1,1,1]:=by simp [fsP,List.range_succ,h0,h1,h2]
    rw [e1,e2];decide +kernel
   ·have e1:cdP pk 3=9:=by simp [cdP,h0,h1,h2]
    have e2:fsP pk 3=[1,1,2]:=by simp [fsP,List.range_succ,h0,h1,h2]
    rw [e1,e2];decide +kernel
  ·rcases h2 with h2 | h2
   ·have e1:cdP pk 3=10:=by simp [cdP,h0,h1,h2]
    have e2:fsP pk 3=[1,2,1]:=by simp [fsP,List.range_succ,h0,h1,h2]
    rw [e1,e2];decide +kernel
   ·have e1:cdP pk 3=11:=by simp [cdP,h0,h1,h2]
    have e2:fsP pk 3=[1,2,2]:=by simp [fsP,List.range_succ,h0,h1,h2]
    rw [e1,e2];decide +kernel
 ·rcases h1 with h1 | h1
  ·rcases h2 with h2 | h2
   ·have e1:cdP pk 3=12:=by simp [cdP,h0,h1,h2]
    have e2:fsP pk 3=[2,1,1]:=by simp [fsP,List.range_succ,h0,h1,h2]
    rw [e1,e2];decide +kernel
   ·have e1:cdP pk 3=13:=by simp [cdP,h0,h1,h2]
    have e2:fsP pk 3=[2,1,2]:=by simp [fsP,List.range_succ,h0,h1,h2]
    rw [e1,e2];decide +kernel
  ·rcases h2 with h2 | h2
   ·have e1:cdP pk 3=14:=by simp [cdP,h0,h1,h2]
    have e2:fsP pk 3=[2,2,1]:=by simp [fsP,List.range_succ,h0,h1,h2]
    rw [e1,e2];decide +kernel
   ·have e1:cdP pk 3=15:=by simp [cdP,h0,h1,h2]
    have e2:fsP pk 3=[2,2,2]:=by simp [fsP,List.range_succ,h0,h1,h2]
    rw [e1,e2];decide +kernel
theorem okE_cr {d:Dg} {m:List Int} (h:okE L d m W=true) {q:Option Addr} {s:Option Addr} (p:S5D n L d base a1 c1 b1 c2 q c3 s c4 V):CrR m b1 V:=by
 unfold okE at h;simp only [Bool.and_eq_true,decide_eq_true_eq] at h;obtain ⟨⟨⟨⟨h1,h2⟩,h3⟩,h4⟩,h5⟩:=h;obtain ⟨b,t,o,l⟩:=own_rowf p.2.1 (gK_len _)
 cases o;intro j f;have hl:=gK_len d.cs;have a:=List.all_eq_true.1 h3 j (by simp [f]);simp only [Bool.and_eq_true,decide_eq_true_eq] at a;obtain ⟨g,off,e,k0⟩:=l.row (j*5) γ
 have cell:∀ r,j*5+r<(gK d.cs).length→At V g (off+j*5+r) (I ((gK d.cs).getD (j*5+r) 0)):=fun r hr=>by
  obtain ⟨u,i,c,k⟩:=l.row (j*5+r) hr;rw [e] at c
  cases c;rw [Qz _ _ hr,Nat.add_assoc];exact k
 refine ⟨g,off,_,_,_,e, ?_,cell 1 γ,cell 2 γ,cell 3 γ, ?_⟩
 ·have:=cell 0 γ;rw [Nat.add_zero,Nat.add_zero,a.1] at this;exact this
 ·have:=cell 4 γ;rw [a.2,Qz _ _ f] at this;exact this
theorem word_dg (pk:Nat→Int) (n:Nat) (h:∀ i,i<n→pk i=0∨pk i=1) (l:n≤3) (V:World) (v:Value) (base:Nat) (d:V.ownsRow base 3 1 v n (kdV pk n)) :
  Cl 8 #[v] V fun e w'=>∃ ua uc,e=.returned (.tuple #[.slice ua (Dr.opn (fsP pk n)).length uc,I 0])∧WdR (Dr.opn (fsP pk n)) ua w'∧Bl V w':=by
 have e:kdV pk n=Dr.rowI (fsP pk n):=by simp [kdV,Dr.rowI,fsP]
 rw [e] at d;obtain ⟨h1,h2⟩:=wordR_ok pk n h l;refine (Dr.word7 v (fsP pk n) V (Dr.own_sl d (by simp [fsP])).sg (by simp [fsP];omega)).mono ?_;rintro e w' ⟨u,rfl,m,hb⟩;rw [h1,h2] at *;obtain ⟨a,c,rfl,f⟩:=Dr.sl_meet m;refine ⟨a,c,rfl,fun j b=>?_,hb⟩;obtain ⟨g,e,k⟩:=f j b;rw [Dr.gt_lt b] at k;exact ⟨g,e,k⟩
theorem flat_all (n:Nat) (h:n≤3):(tD n 1).cs=[]∧∀ i,i<(tL n).length→gH (tD n 1) i=0∧gM (tD n 1) i=idM:=by
 have a:((tD n 1).cs.isEmpty && (List.range (tL n).length).all fun i=>decide (gH (tD n 1) i=0) && decide (gM (tD n 1) i=idM))=true:=by
  have:n=0∨n=1∨n=2∨n=3:=γ;rcases this with rfl | rfl | rfl | rfl <;> decide +kernel
 rw [Bool.and_eq_true] at a;refine ⟨by simpa using a.1,fun i hi=>?_⟩;have:=List.all_eq_true.1 a.2 i (by simp [hi]);simpa using this
theorem thick_dg {d:Dg} {m:List Int} (g:WOk W L) (j:GoodD L d) (h:okE L d m W=true) {b:Option Addr} (l:S5D W L d base a1 c1 b1 c2 a c3 b c4 V) (hs:Steps V) :
  Rt 9 #[.agg #[I (W:Int),I 1,.slice a1 W c1,.slice b1 d.cs.length c2,.slice a L.length c3,.slice b (gS L d).length c4]] V (.tuple #[I (W:Int),I 4,I 0]):=by
 unfold okE at h;simp only [Bool.and_eq_true,decide_eq_true_eq] at h;obtain ⟨⟨⟨⟨h1,h2⟩,h3⟩,h4⟩,h5⟩:=h;have c:=l.sta g.w1;have:=thick_ok (W:Int) 1 a1 b1 a b W c1 d.cs.length c2 L.length c3 (gS L d).length c4 (gS L d) V c.s rfl γ (fun i f=>(of_dg g j c1 c2 c3 c4 i (c.kept f) (hs.kept f)).mono ?_)
 ·rw [h4,h5] at this;rw [h4];exact this
 ·rintro e w' ⟨n,k,r,t,q,p,pa,pc,o,rfl,_,hb⟩;exact ⟨_,_,_,_,_,_,_,_,_,_,_,_,rfl,hb⟩
theorem end_all (n:Nat) (a:n≤3) (pk:Nat→Int) (h:∀ i,i<n→pk i=0∨pk i=1):okE (tL n) (tD n (cdP pk n)) (Dr.opn (fsP pk n)) (2 ^ n)=true:=by
 have:n=0∨n=1∨n=2∨n=3:=γ;rcases this with rfl | rfl | rfl | rfl
 ·exact end0 pk h
 ·exact end1 pk h
 ·exact end2 pk h
 ·exact end3 pk h
theorem top_any (n m:Nat) (o:n≤3) (L:(m≤3∧m=n)∨(3<m∧3=n)) (a:Option Addr) (c:Nat) (rs:Nat→Int) (w:World) (hs:Steps w) (J:∀ i,i<n→∃ g off,a=Ad g off∧At w g (off+i) (I (rs i))) (hb:∀ i,i<n→-9223372036854775808≤rs i∧rs i≤9223372036854775807) :
  Rt 3 #[.slice a m c] w (.bool true):=by
 obtain ⟨pk,u⟩:∃ pk:Nat→Int,∀ i,pk i=pk2 (rs i):=⟨_,fun _=>rfl⟩;have d:∀ i,i<n→pk i=0∨pk i=1:=fun i _=>by rw [u];exact pk2_bd _
 have s:=cdP_bd pk n d;have r:=wok_all n o
 have j:∀ i,i≤n→GoodD (tL n) (tD n (cdP pk i)):=fun i hi=>by
  obtain ⟨h1,h2⟩:=s i hi;have h3:1≤2 ^ i:=Nat.one_le_two_pow;have h4:2 ^ (i+1)≤2 ^ (n+1):=Nat.pow_le_pow_right γ γ;exact good_all n _ o γ γ
 have B:=end_all n o pk d;have f:=B;unfold okE at f;simp only [Bool.and_eq_true,decide_eq_true_eq] at f;obtain ⟨E,fz⟩:=flat_all n o
 refine dragonA n m (2 ^ n) o ξ L a c (tL n).length rs pk (fun i=>(tD n (cdP pk i)).cs.length) (fun i=>(gS (tL n) (tD n (cdP pk i))).length) (Dr.opn (fsP pk n)) (fun a0 q V=>V.ownsRow 0 3 1 (.slice a0 (2 ^ n) q) (2 ^ n) (f15 (2 ^ n))) (fun i=>S5D (2 ^ n) (tL n) (tD n (cdP pk i))) w J d f.1.1.1.1 f.1.1.1.2
  (fun V l=>(full_any (2 ^ n) r.w8 V).mono ?_) (fun V a0 q l H=>?_)
  (fun V i hi=>by rw [u];exact picked2 (rs i) (hb i hi).1 (hb i hi).2 V)
  (fun V i x y base a1 c1 b1 c2 z c3 A c4 hi F t l C=>?_)
  (fun V v base l D=>word_dg pk n d o V v base D)
  (fun V base a1 c1 b1 c2 z c3 A c4 l C=>thick_dg r (j n γ) B C (hs.kept l))
  (fun V G i base a1 c1 b1 c2 z c3 A c4 h hb=>h.kept hb)
  (fun V G i b base a1 c1 b1 c2 z c3 A c4 h hg hb=>h.grown hg hb)
  (fun V base a1 c1 b1 c2 z c3 A c4 h=>okE_cr B h)
 ·rintro e w' ⟨a0,q,rfl,D,hb⟩;exact ⟨a0,q,rfl,own_low D γ,hb⟩
 ·have:=flat_dg r (j 0 γ) E fz a0 q V H (hs.kept l)
  have e0:(tD n (cdP pk 0)).cs.length=0:=by
   show (tD n 1).cs.length=0
   rw [E];rfl
  rw [e0];exact this
 ·obtain ⟨h1,h2⟩:=s i γ;have p:=step_all n i (cdP pk i) y o hi h1 h2;rw [← F] at p
  have K:cdP pk (i+1)=2*cdP pk i+y.toNat:=by
   show 2*cdP pk i+(pk i).toNat=_
   rcases d i hi with k | k
   ·have:y=false:=by
     cases y with
     | false=>rfl
     | true=>rw [t.1 rfl] at k;omega
    rw [k,this];rfl
   ·rw [k,t.2 k];rfl
  rw [← K] at p
  have hl:lineB 0 x=true:=by
   rw [F];have:n - i=1∨n - i=2∨n - i=3:=γ;rcases this with e | e | e <;> (rw [e];decide)
  exact do_dg r (j i γ) (j (i+1) γ) x y hl p c1 c2 c3 c4 V (C.sta r.w1) (hs.kept l)
theorem topDragon_any (rs:List Int) (a:Option Addr) (c:Nat) (w:World) (hs:Steps w) (f:Row w a rs) (hb:∀ x∈rs, -9223372036854775808≤x∧x≤9223372036854775807) :
  Rt 3 #[.slice a rs.length c] w (.bool true):=by
 have b:∀ n,n≤rs.length→∀ i,i<n→∃ g off,a=Ad g off∧At w g (off+i) (I (rs.getD i 0)):=fun n j i hi=>by
  obtain ⟨g,off,e,k⟩:=f i γ;rw [Qz rs i γ];exact ⟨g,off,e,k⟩
 have d:∀ n,n≤rs.length→∀ i,i<n→-9223372036854775808≤rs.getD i 0∧rs.getD i 0≤9223372036854775807:=fun n j i hi=>by
  rw [Qz rs i γ];exact hb _ (Lm _)
 by_cases h:rs.length≤3
 ·exact top_any rs.length rs.length h (Or.inl ⟨h,rfl⟩) a c (fun i=>rs.getD i 0) w hs (b _ γ) (d _ γ)
 ·exact top_any 3 rs.length γ (Or.inr ⟨γ,rfl⟩) a c (fun i=>rs.getD i 0) w hs (b 3 γ) (d 3 γ)
end Go.Proofs.YtjkjpopghkeibaaGreatDoor
