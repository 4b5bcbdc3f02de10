import Derived.Test.YthcohnnikmpjkaaE7
import Derived.Test.YthcohnnikmpjkaaE6
