/-
  The program's five contracts: Pr_c (Csa), Exists_c, Read_c, Write_c (Csi), Count_c (Csj).
-/
import Derived.Test.YtnnkeodiacdmaaaCsi
import Derived.Test.YtnnkeodiacdmaaaCsj
